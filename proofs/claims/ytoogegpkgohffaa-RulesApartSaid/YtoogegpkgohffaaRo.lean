/- Texts of this proof, together: RulesApart, RulesApartW. -/
import Derived.Test.YtoogegpkgohffaaRh
import Derived.Test.YtoogegpkgohffaaRg
import Derived.Test.YtoogegpkgohffaaRj
import Derived.Deep.CutBlock
namespace Go.Proofs.Ytoogegpkgohffaa
set_option linter.unusedVariables false
set_option linter.unusedSimpArgs false
open Go.ChangeShapes Go.WideShapes Go.ChangeAt Go.RowKit Go.PlainAid
attribute [local go_sem ↓] Go.wp_at_zero Go.wp_at_succ
namespace RulesApart
theorem outL_le {r : Ru} (h : r.Ok) : outL r < 4294967296 := by
  unfold outL
  split
  · omega
  · exact h.ex1
theorem rule_cells {t : Tm} {b9 n i : Nat} {r : Ru} {w0 w : World} (HI : Hid (i < n)) (HR : Hid (r = t.rs.getD i Ru.zero)) (Hn : Hid (t.rs.length = n)) (R : RulesAt w0 (some ⟨b9, 0, none⟩) t.rs) (b : Below w0.heap.size w0 w) : w.cell? ⟨b9, i * 11, none⟩ = some (.int .i64 r.k) ∧ w.cell? ⟨b9, i * 11 + 1, none⟩ = some (.int .u8 r.pr) ∧ w.cell? ⟨b9, i * 11 + 2, none⟩ = some (.int .u32 (r.si : Int)) ∧ w.cell? ⟨b9, i * 11 + 3, none⟩ = some (.int .i64 r.sb) ∧ w.cell? ⟨b9, i * 11 + 4, none⟩ = some (.int .u32 (r.di : Int)) ∧ w.cell? ⟨b9, i * 11 + 5, none⟩ = some (.int .i64 r.db) ∧ w.cell? ⟨b9, i * 11 + 6, none⟩ = some (.int .u32 (r.ex : Int)) ∧ w.cell? ⟨b9, i * 11 + 7, none⟩ = some (.int .u16 r.fr) ∧ w.cell? ⟨b9, i * 11 + 8, none⟩ = some (.int .u16 r.to) ∧ w.cell? ⟨b9, i * 11 + 9, none⟩ = some (.int .u32 (r.ii : Int)) ∧ w.cell? ⟨b9, i * 11 + 10, none⟩ = some (.int .u16 r.ip) := by
  rcases R.on b with h | ⟨b1, e, _, hc⟩
  · have := HI.out; have := Hn.out; omega
  · simp only [Option.some.injEq, Addr.mk.injEq, and_true] at e
    subst e
    have h := hc i (by rw [Hn.out]; exact HI.out)
    rw [← HR.out] at h
    exact h
theorem rcell0 {t : Tm} {b9 n i : Nat} {r : Ru} {w0 w : World} (HI : Hid (i < n)) (HR : Hid (r = t.rs.getD i Ru.zero)) (Hn : Hid (t.rs.length = n)) (R : RulesAt w0 (some ⟨b9, 0, none⟩) t.rs) (b : Below w0.heap.size w0 w) : w.cell? ⟨b9, i * 11, none⟩ = some (.int .i64 r.k) := (rule_cells HI HR Hn R b).1
theorem rcell1 {t : Tm} {b9 n i : Nat} {r : Ru} {w0 w : World} (HI : Hid (i < n)) (HR : Hid (r = t.rs.getD i Ru.zero)) (Hn : Hid (t.rs.length = n)) (R : RulesAt w0 (some ⟨b9, 0, none⟩) t.rs) (b : Below w0.heap.size w0 w) : w.cell? ⟨b9, i * 11 + 1, none⟩ = some (.int .u8 r.pr) := (rule_cells HI HR Hn R b).2.1
theorem rcell2 {t : Tm} {b9 n i : Nat} {r : Ru} {w0 w : World} (HI : Hid (i < n)) (HR : Hid (r = t.rs.getD i Ru.zero)) (Hn : Hid (t.rs.length = n)) (R : RulesAt w0 (some ⟨b9, 0, none⟩) t.rs) (b : Below w0.heap.size w0 w) : w.cell? ⟨b9, i * 11 + 2, none⟩ = some (.int .u32 (r.si : Int)) := (rule_cells HI HR Hn R b).2.2.1
theorem rcell3 {t : Tm} {b9 n i : Nat} {r : Ru} {w0 w : World} (HI : Hid (i < n)) (HR : Hid (r = t.rs.getD i Ru.zero)) (Hn : Hid (t.rs.length = n)) (R : RulesAt w0 (some ⟨b9, 0, none⟩) t.rs) (b : Below w0.heap.size w0 w) : w.cell? ⟨b9, i * 11 + 3, none⟩ = some (.int .i64 r.sb) := (rule_cells HI HR Hn R b).2.2.2.1
theorem rcell4 {t : Tm} {b9 n i : Nat} {r : Ru} {w0 w : World} (HI : Hid (i < n)) (HR : Hid (r = t.rs.getD i Ru.zero)) (Hn : Hid (t.rs.length = n)) (R : RulesAt w0 (some ⟨b9, 0, none⟩) t.rs) (b : Below w0.heap.size w0 w) : w.cell? ⟨b9, i * 11 + 4, none⟩ = some (.int .u32 (r.di : Int)) := (rule_cells HI HR Hn R b).2.2.2.2.1
theorem rcell5 {t : Tm} {b9 n i : Nat} {r : Ru} {w0 w : World} (HI : Hid (i < n)) (HR : Hid (r = t.rs.getD i Ru.zero)) (Hn : Hid (t.rs.length = n)) (R : RulesAt w0 (some ⟨b9, 0, none⟩) t.rs) (b : Below w0.heap.size w0 w) : w.cell? ⟨b9, i * 11 + 5, none⟩ = some (.int .i64 r.db) := (rule_cells HI HR Hn R b).2.2.2.2.2.1
theorem rcell6 {t : Tm} {b9 n i : Nat} {r : Ru} {w0 w : World} (HI : Hid (i < n)) (HR : Hid (r = t.rs.getD i Ru.zero)) (Hn : Hid (t.rs.length = n)) (R : RulesAt w0 (some ⟨b9, 0, none⟩) t.rs) (b : Below w0.heap.size w0 w) : w.cell? ⟨b9, i * 11 + 6, none⟩ = some (.int .u32 (r.ex : Int)) := (rule_cells HI HR Hn R b).2.2.2.2.2.2.1
theorem rcell7 {t : Tm} {b9 n i : Nat} {r : Ru} {w0 w : World} (HI : Hid (i < n)) (HR : Hid (r = t.rs.getD i Ru.zero)) (Hn : Hid (t.rs.length = n)) (R : RulesAt w0 (some ⟨b9, 0, none⟩) t.rs) (b : Below w0.heap.size w0 w) : w.cell? ⟨b9, i * 11 + 7, none⟩ = some (.int .u16 r.fr) := (rule_cells HI HR Hn R b).2.2.2.2.2.2.2.1
theorem rcell8 {t : Tm} {b9 n i : Nat} {r : Ru} {w0 w : World} (HI : Hid (i < n)) (HR : Hid (r = t.rs.getD i Ru.zero)) (Hn : Hid (t.rs.length = n)) (R : RulesAt w0 (some ⟨b9, 0, none⟩) t.rs) (b : Below w0.heap.size w0 w) : w.cell? ⟨b9, i * 11 + 8, none⟩ = some (.int .u16 r.to) := (rule_cells HI HR Hn R b).2.2.2.2.2.2.2.2.1
theorem rcell9 {t : Tm} {b9 n i : Nat} {r : Ru} {w0 w : World} (HI : Hid (i < n)) (HR : Hid (r = t.rs.getD i Ru.zero)) (Hn : Hid (t.rs.length = n)) (R : RulesAt w0 (some ⟨b9, 0, none⟩) t.rs) (b : Below w0.heap.size w0 w) : w.cell? ⟨b9, i * 11 + 9, none⟩ = some (.int .u32 (r.ii : Int)) := (rule_cells HI HR Hn R b).2.2.2.2.2.2.2.2.2.1
theorem rcell10 {t : Tm} {b9 n i : Nat} {r : Ru} {w0 w : World} (HI : Hid (i < n)) (HR : Hid (r = t.rs.getD i Ru.zero)) (Hn : Hid (t.rs.length = n)) (R : RulesAt w0 (some ⟨b9, 0, none⟩) t.rs) (b : Below w0.heap.size w0 w) : w.cell? ⟨b9, i * 11 + 10, none⟩ = some (.int .u16 r.ip) := (rule_cells HI HR Hn R b).2.2.2.2.2.2.2.2.2.2
set_option maxHeartbeats 8000000 in
set_option maxRecDepth 100000 in
theorem walk_ (FL : Filled) (a : Option Addr) (len cap : Nat) (ds : List Dr) (w : World) (D0 : DrAt w a len ds) (hm : len ≤ maxLen) :
    Calls Try.prog 6 #[.slice a len cap] w fun e w' => e = .returned (.bool true) ∧ Below w.heap.size w w' := by
  have rl := fun u => ruled_ u
  by_cases h : 60 < len
  · have e1 : decide (60 < len) = true := by simpa using h
    have e2 : decide ((60 : Int) < (len : Int)) = true := by simp; omega
    clear D0 h FL
    go_enter Try.func6, Try.ntmps6
    have B1 := Below.refl w.heap.size w
    go_wp2_with fail
    refine (rl _).mono ?_; rintro e w1 ⟨rfl, x1⟩
    have B2 := B1.trans (x1.mono B1.size)
    clear B1 x1
    go_wp2
    go_ret
    exact ⟨rfl, B2⟩
  have e1 : decide (60 < len) = false := by simpa using h
  have e2 : decide ((60 : Int) < (len : Int)) = false := by simp; omega
  have fl := FL a len cap ds w D0 (by omega)
  clear h hm FL D0
  go_enter Try.func6, Try.ntmps6
  have B1 := Below.refl w.heap.size w
  go_wp2_with fail
  refine fl.mono ?_; rintro e w1 ⟨x1, p, v, t, rfl, T0, G, L, S⟩
  clear fl
  have cl : ∀ (u : World) (H : TabC u w.heap.size p v t), _ := fun u H => listL_ t w.heap.size p v u H G
  have few := G.few
  have hx := x1
  have B2 := B1.trans (hx.mono B1.size)
  clear B1 hx
  clear x1
  go_wp2_with fail
  refine (cl _ T0).mono ?_; rintro e w2 ⟨a9, c9, rfl, r9, x2⟩
  have RZ := Lib.hid (r9.at).2
  clear r9 cl
  have T_3 := T0.on x2
  clear T0
  have B4 := B2.trans (x2.mono B2.size)
  clear B2 x2
  obtain ⟨n, hn⟩ : ∃ n, t.rs.length = n := ⟨_, rfl⟩
  rw [hn] at few ⊢
  have Hn := Lib.hid hn
  have HT := Lib.hid (And.intro T_3 (And.intro G (And.intro L S)))
  clear hn T_3 G L S
  go_wp2_with fail
  go_loopw [6] (fun si wr => ∃ i : Nat, i ≤ n ∧ si = .int .i64 (i : Int) ∧ Below w2.heap.size w2 wr) (fun si _ => n - (intOf si).toNat)
  case atStart => exact ⟨0, Nat.zero_le _, rfl, Below.refl _ _⟩
  case round =>
    obtain ⟨i, hi, rfl, bb⟩ := hrel
    by_cases hlt : i < n
    rotate_left
    · have e10 : decide ((i : Int) < (n : Int)) = false := by simp; omega
      have e11 : decide (i < n) = false := by simp; omega
      have BB := B4.trans (bb.mono B4.size)
      clear hi hlt B4 bb
      go_wp2_with fail
      refine (rl _).mono ?_; rintro e w9 ⟨rfl, x9⟩
      go_wp2
      go_ret
      exact ⟨rfl, BB.trans (x9.mono BB.size)⟩
    have HI := Lib.hid hlt
    have e10 : decide ((i : Int) < (n : Int)) = true := by simp; omega
    have e11 : decide (i < n) = true := by simp; omega
    have e12 : (i : Int) < (n : Int) := by omega
    have hl2 : i < t.rs.length := by rw [Hn.out]; exact hlt
    obtain ⟨b9, ha, hb, hc⟩ : ∃ b, a9 = some ⟨b, 0, none⟩ ∧ b < wr.heap.size ∧ _ := by
      rcases (RZ.out.on bb) with h | h
      · omega
      · exact h
    subst ha
    obtain ⟨c0, c1, c2, c3, c4, c5, c6, c7, c8, c9_, c10⟩ := hc i hl2
    obtain ⟨r, hr⟩ : ∃ r, r = t.rs.getD i Ru.zero := ⟨_, rfl⟩
    have rm : r ∈ t.rs := by rw [hr]; exact getD_mem hl2
    have ok := HT.out.2.1.all r rm
    have may := HT.out.2.2.2.may r rm
    rw [← hr] at c0 c1 c2 c3 c4 c5 c6 c7 c8 c9_ c10
    have fo := fun u => outerL_ r u
    have ic := fun (u : World) (H : TabC u w.heap.size p v t) => inneC_ t w.heap.size p v u H HT.out.2.1 (outL r) (outL_le ok)
    have oc := fun (u : World) (H : TabC u w.heap.size p v t) => outeC_ t w.heap.size p v u H HT.out.2.1 (outL r)
    have cc := fun (u : World) (H : TabC u w.heap.size p v t) => checC_ t w.heap.size p v u H HT.out.2.1 r ok
    rw [apart_in HT.out.2.2.1 may] at ic
    rw [apart_out HT.out.2.2.1 rm] at oc
    rw [check_may may] at cc
    have HR := Lib.hid hr
    generalize outL r = ox at *
    have T2 := HT.out.1.on bb
    have RQ := Lib.hid hc
    clear hr hi hlt hl2 rm may ok hc rl
    go_wp2_with fail
    clear c0 c1 c2 c3 c4 c5 c6 c7 c8 c9_ c10
    refine (fo _).mono ?_; rintro e w21 ⟨rfl, x21⟩
    have T_101 := T2.on x21
    clear T2
    have B102 := bb.trans (x21.mono bb.size)
    clear bb x21
    go_wp2_with fail
    refine (ic _ T_101).mono ?_; rintro e w22 ⟨rfl, x22⟩
    have T_103 := T_101.on x22
    clear T_101
    have B104 := B102.trans (x22.mono B102.size)
    clear B102 x22
    obtain ⟨c0, c1, c2, c3, c4, c5, c6, c7, c8, c9_, c10⟩ := rule_cells HI HR Hn RZ.out B104
    go_wp2_with fail
    clear c0 c1 c2 c3 c4 c5 c6 c7 c8 c9_ c10
    refine (fo _).mono ?_; rintro e w23 ⟨rfl, x23⟩
    have T_105 := T_103.on x23
    clear T_103
    have B106 := B104.trans (x23.mono B104.size)
    clear B104 x23
    go_wp2_with fail
    refine (oc _ T_105).mono ?_; rintro e w24 ⟨rfl, x24⟩
    have T_107 := T_105.on x24
    clear T_105
    have B108 := B106.trans (x24.mono B106.size)
    clear B106 x24
    obtain ⟨c0, c1, c2, c3, c4, c5, c6, c7, c8, c9_, c10⟩ := rule_cells HI HR Hn RZ.out B108
    go_wp2_with fail
    clear c0 c1 c2 c3 c4 c5 c6 c7 c8 c9_ c10
    refine (cc _ T_107).mono ?_; rintro e w25 ⟨rfl, x25⟩
    have T_109 := T_107.on x25
    clear T_107
    have B110 := B108.trans (x25.mono B108.size)
    clear B108 x25
    clear fo ic oc cc
    obtain ⟨z1, p1, q1, l1⟩ := eqi_ r.k 3
    cases z1
    · obtain ⟨c0, c1, c2, c3, c4, c5, c6, c7, c8, c9_, c10⟩ := rule_cells HI HR Hn RZ.out B110
      simp only [Bool.not_false] at q1
      clear l1
      go_wp2_with fail
      go_roundw
      case rel => exact ⟨i + 1, HI.out, by go_num, B110⟩
      case measure => have := HI.out; simp [intOf]; omega
    · simp only [Bool.not_true] at q1
      have hk := Lib.hid (of_decide_eq_true l1)
      clear l1
      have HA := apart_S HT.out.2.2.2 (by rw [Hn.out]; exact HI.out) HR.out hk.out
      have HO := apart_O HT.out.2.2.2 (by rw [Hn.out]; exact HI.out) HR.out hk.out
      have sC := fun (u : World) (H : TabC u w.heap.size p v t) => statC_ t w.heap.size p v u H HT.out.2.1 r.pr r.fr r.ex
      have oC := fun (u : World) (H : TabC u w.heap.size p v t) => ownTC_ t w.heap.size p v u H HT.out.2.1 r.pr r.ip r.ii
      rw [HA.1, HA.2] at sC
      rw [HO.1, HO.2] at oC
      clear HA HO
      obtain ⟨c0, c1, c2, c3, c4, c5, c6, c7, c8, c9_, c10⟩ := rule_cells HI HR Hn RZ.out B110
      go_upto_region 13 with fail
      clear c0 c1 c2 c3 c4 c5 c6 c7 c8 c9_ c10
      obtain ⟨u26, hu26⟩ : ∃ x_ : World, x_ = w25 := ⟨_, rfl⟩
      rw [← hu26] at T_109 B110 ⊢
      clear hu26
      go_cut [7, 8] (fun s7 s8 wx => ∃ b, s7 = .pointer (some ⟨b, 0, none⟩) ∧ s8 = .bool true ∧ Below u26.heap.size u26 wx ∧ Box11 wx b (.int .i64 r.k) (.int .u8 r.pr) (.int .u32 (r.si : Int)) (.int .i64 r.sb) (.int .u32 (r.di : Int)) (.int .i64 r.db) (.int .u32 (r.ex : Int)) (.int .u16 r.fr) (.int .u16 r.to) (.int .u32 (r.ii : Int)) (.int .u16 r.ip) ∧ u26.heap.size ≤ b)
      case first =>
        have bd := (Below.refl u26.heap.size u26).drew
        have cX := rule_cells HI HR Hn RZ.out (B110.trans (bd.mono B110.size))
        refine wp_region_held_drew (S := (fun w' => w'.cell? ⟨b9, i * 11 + 1, none⟩ = some (.int .u8 r.pr) ∧ w'.cell? ⟨b9, i * 11 + 6, none⟩ = some (.int .u32 (r.ex : Int)) ∧ w'.cell? ⟨b9, i * 11 + 7, none⟩ = some (.int .u16 r.fr))) (by kernel_rfl) ?_ (fun hHeld => ?_)
        · exact ⟨cX.2.1, cX.2.2.2.2.2.2.1, cX.2.2.2.2.2.2.2.1⟩
        clear cX
        obtain ⟨ud, hud⟩ : ∃ x_ : World, x_ = u26.drew := ⟨_, rfl⟩
        rw [← hud] at bd hHeld ⊢
        clear hud
        refine wpAnyH_take (i := 0) (oi := _) (v := ?_) rfl (by kernel_rfl) (by kernel_rfl) (by kernel_rfl) (fun _ _ _ h => h) (Or.inl ⟨by kernel_rfl, ?_⟩) (by assumption) ?_
        rotate_left
        · intro w hSw
          (try dsimp only at hSw)
          obtain ⟨hq0, hq1, hq2⟩ := hSw
          go_simp
          with_reducible rfl
        try simp only [Act.put, List.setIfInBounds_toArray, List.set_cons_zero, List.set_cons_succ]
        refine wpAnyH_take (i := 1) (oi := _) (v := ?_) rfl (by kernel_rfl) (by kernel_rfl) (by kernel_rfl) (fun _ _ _ h => h) (Or.inl ⟨by kernel_rfl, ?_⟩) (by assumption) ?_
        rotate_left
        · intro w hSw
          (try dsimp only at hSw)
          obtain ⟨hq0, hq1, hq2⟩ := hSw
          go_simp
          with_reducible rfl
        try simp only [Act.put, List.setIfInBounds_toArray, List.set_cons_zero, List.set_cons_succ]
        refine wpAnyH_take (i := 2) (oi := _) (v := ?_) rfl (by kernel_rfl) (by kernel_rfl) (by kernel_rfl) (fun _ _ _ h => h) (Or.inl ⟨by kernel_rfl, ?_⟩) (by assumption) ?_
        rotate_left
        · intro w hSw
          (try dsimp only at hSw)
          obtain ⟨hq0, hq1, hq2⟩ := hSw
          go_simp
          with_reducible rfl
        try simp only [Act.put, List.setIfInBounds_toArray, List.set_cons_zero, List.set_cons_succ]
        refine wpAnyH_take (i := 3) (oi := _) (v := ?_) rfl (by kernel_rfl) (by kernel_rfl) (by kernel_rfl) (fun _ _ _ h => h) (Or.inl ⟨by kernel_rfl, ?_⟩) (by assumption) ?_
        rotate_left
        · intro w hSw
          (try dsimp only at hSw)
          obtain ⟨hq0, hq1, hq2⟩ := hSw
          go_simp
          with_reducible rfl
        try simp only [Act.put, List.setIfInBounds_toArray, List.set_cons_zero, List.set_cons_succ]
        refine wpAnyH_take (i := 4) (oi := _) (v := ?_) rfl (by kernel_rfl) (by kernel_rfl) (by kernel_rfl) (fun _ _ _ h => h) (Or.inl ⟨by kernel_rfl, ?_⟩) (by assumption) ?_
        rotate_left
        · intro w hSw
          (try dsimp only at hSw)
          obtain ⟨hq0, hq1, hq2⟩ := hSw
          go_simp
          with_reducible rfl
        try simp only [Act.put, List.setIfInBounds_toArray, List.set_cons_zero, List.set_cons_succ]
        refine wpAnyH_take (i := 5) (oi := _) (v := ?_) rfl (by kernel_rfl) (by kernel_rfl) (by kernel_rfl) (fun _ _ _ h => h) (Or.inl ⟨by kernel_rfl, ?_⟩) (by assumption) ?_
        rotate_left
        · intro w hSw
          (try dsimp only at hSw)
          obtain ⟨hq0, hq1, hq2⟩ := hSw
          go_simp
          with_reducible rfl
        try simp only [Act.put, List.setIfInBounds_toArray, List.set_cons_zero, List.set_cons_succ]
        refine wpAnyH_take (i := 6) (oi := _) (v := ?_) rfl (by kernel_rfl) (by kernel_rfl) (by kernel_rfl) (fun _ _ _ h => h) (Or.inl ⟨by kernel_rfl, ?_⟩) (by assumption) ?_
        rotate_left
        · intro w hSw
          (try dsimp only at hSw)
          obtain ⟨hq0, hq1, hq2⟩ := hSw
          go_simp
          with_reducible rfl
        try simp only [Act.put, List.setIfInBounds_toArray, List.set_cons_zero, List.set_cons_succ]
        refine wpAnyH_take (i := 7) (oi := _) (v := ?_) rfl (by kernel_rfl) (by kernel_rfl) (by kernel_rfl) (fun _ _ _ h => h) (Or.inl ⟨by kernel_rfl, ?_⟩) (by assumption) ?_
        rotate_left
        · intro w hSw
          (try dsimp only at hSw)
          obtain ⟨hq0, hq1, hq2⟩ := hSw
          go_simp
          with_reducible rfl
        try simp only [Act.put, List.setIfInBounds_toArray, List.set_cons_zero, List.set_cons_succ]
        refine wpAnyH_take (i := 8) (oi := _) (v := ?_) rfl (by kernel_rfl) (by kernel_rfl) (by kernel_rfl) (fun _ _ _ h => h) (Or.inl ⟨by kernel_rfl, ?_⟩) (by assumption) ?_
        rotate_left
        · intro w hSw
          (try dsimp only at hSw)
          obtain ⟨hq0, hq1, hq2⟩ := hSw
          go_simp
          with_reducible rfl
        try simp only [Act.put, List.setIfInBounds_toArray, List.set_cons_zero, List.set_cons_succ]
        refine wpAnyH_take (i := 9) (oi := _) (v := ?_) rfl (by kernel_rfl) (by kernel_rfl) (by kernel_rfl) (fun _ _ _ h => h) (Or.inl ⟨by kernel_rfl, ?_⟩) (by assumption) ?_
        rotate_left
        · intro w hSw
          (try dsimp only at hSw)
          obtain ⟨hq0, hq1, hq2⟩ := hSw
          go_simp
          with_reducible rfl
        try simp only [Act.put, List.setIfInBounds_toArray, List.set_cons_zero, List.set_cons_succ]
        refine wpAnyH_take (i := 10) (oi := _) (v := ?_) rfl (by kernel_rfl) (by kernel_rfl) (by kernel_rfl) (fun _ _ _ h => h) (Or.inl ⟨by kernel_rfl, ?_⟩) (by assumption) ?_
        rotate_left
        · intro w hSw
          (try dsimp only at hSw)
          obtain ⟨hq0, hq1, hq2⟩ := hSw
          go_simp
          with_reducible rfl
        try simp only [Act.put, List.setIfInBounds_toArray, List.set_cons_zero, List.set_cons_succ]
        refine wpAnyH_take (i := 11) (oi := _) (v := ?_) rfl (by kernel_rfl) (by kernel_rfl) (by kernel_rfl) (fun _ _ _ h => h) (Or.inl ⟨by kernel_rfl, ?_⟩) (by assumption) ?_
        rotate_left
        · intro w hSw
          (try dsimp only at hSw)
          obtain ⟨hq0, hq1, hq2⟩ := hSw
          go_simp
          with_reducible rfl
        try simp only [Act.put, List.setIfInBounds_toArray, List.set_cons_zero, List.set_cons_succ]
        refine wpAnyH_take (i := 12) (oi := _) (v := ?_) rfl (by kernel_rfl) (by kernel_rfl) (by kernel_rfl) (fun _ _ _ h => h) (Or.inl ⟨by kernel_rfl, ?_⟩) (by assumption) ?_
        rotate_left
        · intro w hSw
          (try dsimp only at hSw)
          obtain ⟨hq0, hq1, hq2⟩ := hSw
          go_simp
          with_reducible rfl
        try simp only [Act.put, List.setIfInBounds_toArray, List.set_cons_zero, List.set_cons_succ]
        refine wpAnyH_take (i := 13) (oi := _) (v := ?_) rfl (by kernel_rfl) (by kernel_rfl) (by kernel_rfl) (fun _ _ _ h => h) (Or.inl ⟨by kernel_rfl, ?_⟩) (by assumption) ?_
        rotate_left
        · intro w hSw
          (try dsimp only at hSw)
          obtain ⟨hq0, hq1, hq2⟩ := hSw
          go_simp
          with_reducible rfl
        try simp only [Act.put, List.setIfInBounds_toArray, List.set_cons_zero, List.set_cons_succ]
        refine wpAnyH_take (i := 14) (oi := _) (v := ?_) rfl (by kernel_rfl) (by kernel_rfl) (by kernel_rfl) (fun _ _ _ h => h) (Or.inl ⟨by kernel_rfl, ?_⟩) (by assumption) ?_
        rotate_left
        · intro w hSw
          (try dsimp only at hSw)
          obtain ⟨hq0, hq1, hq2⟩ := hSw
          go_simp
          with_reducible rfl
        try simp only [Act.put, List.setIfInBounds_toArray, List.set_cons_zero, List.set_cons_succ]
        refine wpAnyH_take (i := 15) (oi := _) (v := ?_) rfl (by kernel_rfl) (by kernel_rfl) (by kernel_rfl) (fun _ _ _ h => h) (Or.inl ⟨by kernel_rfl, ?_⟩) (by assumption) ?_
        rotate_left
        · intro w hSw
          (try dsimp only at hSw)
          obtain ⟨hq0, hq1, hq2⟩ := hSw
          go_simp
          with_reducible rfl
        try simp only [Act.put, List.setIfInBounds_toArray, List.set_cons_zero, List.set_cons_succ]
        refine wpAnyH_take (i := 16) (oi := _) (v := ?_) rfl (by kernel_rfl) (by kernel_rfl) (by kernel_rfl) (fun _ _ _ h => h) (Or.inl ⟨by kernel_rfl, ?_⟩) (by assumption) ?_
        rotate_left
        · intro w hSw
          (try dsimp only at hSw)
          obtain ⟨hq0, hq1, hq2⟩ := hSw
          go_simp
          with_reducible rfl
        try simp only [Act.put, List.setIfInBounds_toArray, List.set_cons_zero, List.set_cons_succ]
        clear hHeld
        refine wpAnyH_ready (rs := [17, 21]) (by kernel_rfl) (by simp) ?_
        refine AllReadyH.cons (o := _) rfl (fun K hK => ?_) (AllReadyH.cons (o := _) rfl (fun K hK => ?_) AllReadyH.nil)
        · go_simp
          refine (sC _ (T_109.on bd)).mono ?_; rintro e wA ⟨rfl, xA⟩
          have bA := bd.trans (xA.mono bd.size)
          show K _ _
          have cX := rule_cells HI HR Hn RZ.out (B110.trans (bA.mono B110.size))
          refine hK.out _ _ ⟨cX.2.1, cX.2.2.2.2.2.2.1, cX.2.2.2.2.2.2.2.1⟩ (fun hH => ?_)
          clear hK K cX
          have hHeld := hH
          clear hH
          try simp only [Act.put, List.setIfInBounds_toArray, List.set_cons_zero, List.set_cons_succ]
          refine wpAnyH_take (i := 18) (oi := _) (v := ?_) rfl (by kernel_rfl) (by kernel_rfl) (by kernel_rfl) (fun _ _ _ h => h) (Or.inl ⟨by kernel_rfl, ?_⟩) (by assumption) ?_
          rotate_left
          · intro w hSw
            clear hSw
            go_simp
            with_reducible rfl
          try simp only [Act.put, List.setIfInBounds_toArray, List.set_cons_zero, List.set_cons_succ]
          refine wpAnyH_take (i := 19) (oi := _) (v := ?_) rfl (by kernel_rfl) (by kernel_rfl) (by kernel_rfl) (fun _ _ _ h => h) (Or.inl ⟨by kernel_rfl, ?_⟩) (by assumption) ?_
          rotate_left
          · intro w hSw
            clear hSw
            go_simp
            with_reducible rfl
          try simp only [Act.put, List.setIfInBounds_toArray, List.set_cons_zero, List.set_cons_succ]
          refine wpAnyH_take (i := 20) (oi := _) (v := ?_) rfl (by kernel_rfl) (by kernel_rfl) (by kernel_rfl) (fun _ _ _ h => h) (Or.inl ⟨by kernel_rfl, ?_⟩) (by assumption) ?_
          rotate_left
          · intro w hSw
            clear hSw
            go_simp
            with_reducible rfl
          try simp only [Act.put, List.setIfInBounds_toArray, List.set_cons_zero, List.set_cons_succ]
          clear hHeld
          refine wpAnyH_ready (rs := [21]) (by kernel_rfl) (by simp) ?_
          refine AllReadyH.cons (o := _) rfl (fun K hK => ?_) AllReadyH.nil
          go_simp
          have bZ := bA.alloc bA.size (.cells #[.int .i64 0, .int .u8 0, .int .u32 0, .int .i64 0, .int .u32 0, .int .i64 0, .int .u32 0, .int .u16 0, .int .u16 0, .int .u32 0, .int .u16 0] 42)
          have Z := Box11.make wA (.int .i64 0) (.int .u8 0) (.int .u32 0) (.int .i64 0) (.int .u32 0) (.int .i64 0) (.int .u32 0) (.int .u16 0) (.int .u16 0) (.int .u32 0) (.int .u16 0) 42
          have fz : ∀ j, (wA.alloc (.cells #[.int .i64 0, .int .u8 0, .int .u32 0, .int .i64 0, .int .u32 0, .int .i64 0, .int .u32 0, .int .u16 0, .int .u16 0, .int .u32 0, .int .u16 0] 42)).frozen? ⟨wA.heap.size, j, none⟩ = false := by intro j; simp [go_sem]
          have lz := bA.size
          obtain ⟨wZ, hwZ⟩ : ∃ x_ : World, x_ = wA.alloc (.cells #[.int .i64 0, .int .u8 0, .int .u32 0, .int .i64 0, .int .u32 0, .int .i64 0, .int .u32 0, .int .u16 0, .int .u16 0, .int .u32 0, .int .u16 0] 42) := ⟨_, rfl⟩
          rw [← hwZ] at bZ Z fz ⊢
          clear hwZ
          obtain ⟨zb, hzb⟩ : ∃ x_ : Nat, x_ = wA.heap.size := ⟨_, rfl⟩
          rw [← hzb] at Z fz lz ⊢
          clear hzb
          have cX := rule_cells HI HR Hn RZ.out (B110.trans (bZ.mono B110.size))
          refine hK.out _ _ ⟨cX.2.1, cX.2.2.2.2.2.2.1, cX.2.2.2.2.2.2.2.1⟩ (fun hH => ?_)
          clear hK K cX
          have hHeld := hH
          clear hH
          try simp only [Act.put, List.setIfInBounds_toArray, List.set_cons_zero, List.set_cons_succ]
          clear hHeld
          obtain ⟨_, y0, y1, y2, y3, y4, y5, y6, y7, y8, y9, y10⟩ := id Z
          refine wpAnyH_ready (rs := [22]) (by kernel_rfl) (by simp) ?_
          refine AllReadyH.cons (o := _) rfl (fun K hK => ?_) AllReadyH.nil
          go_simp
          clear y0 y1 y2 y3 y4 y5 y6 y7 y8 y9 y10
          refine box11_ (M := fun X_ => K _ X_) (b := zb) Z.some bZ lz fun X x0_ x1_ x2_ x3_ x4_ x5_ x6_ x7_ x8_ x9_ x10_ BX far_ sz_ => ?_
          have AX : Box11 X zb (.int .i64 r.k) (.int .u8 r.pr) (.int .u32 (r.si : Int)) (.int .i64 r.sb) (.int .u32 (r.di : Int)) (.int .i64 r.db) (.int .u32 (r.ex : Int)) (.int .u16 r.fr) (.int .u16 r.to) (.int .u32 (r.ii : Int)) (.int .u16 r.ip) := ⟨by rw [sz_]; exact Z.1, x0_, x1_, x2_, x3_, x4_, x5_, x6_, x7_, x8_, x9_, x10_⟩
          have cX := rule_cells HI HR Hn RZ.out (B110.trans (BX.mono B110.size))
          refine hK.out _ _ ⟨cX.2.1, cX.2.2.2.2.2.2.1, cX.2.2.2.2.2.2.2.1⟩ (fun hH => ?_)
          clear hK K cX
          have hHeld := hH
          clear hH
          try simp only [Act.put, List.setIfInBounds_toArray, List.set_cons_zero, List.set_cons_succ]
          refine wpAnyH_take (i := 23) (oi := _) (v := ?_) rfl (by kernel_rfl) (by kernel_rfl) (by kernel_rfl) (fun _ _ _ h => h) (Or.inl ⟨by kernel_rfl, ?_⟩) (by assumption) ?_
          rotate_left
          · intro w hSw
            clear hSw
            go_simp
            with_reducible rfl
          try simp only [Act.put, List.setIfInBounds_toArray, List.set_cons_zero, List.set_cons_succ]
          simp only [List.getElem_toArray, List.getElem_cons_succ, List.getElem_cons_zero, Act.put, List.setIfInBounds_toArray, List.set_cons_zero, List.set_cons_succ]
          refine wpAnyH_done (by kernel_rfl) ?_ _
          clear hHeld
          go_wp2
          go_meet
          exact ⟨zb, rfl, rfl, BX, AX, lz⟩
        · go_simp
          have bZ := bd.alloc bd.size (.cells #[.int .i64 0, .int .u8 0, .int .u32 0, .int .i64 0, .int .u32 0, .int .i64 0, .int .u32 0, .int .u16 0, .int .u16 0, .int .u32 0, .int .u16 0] 42)
          have Z := Box11.make ud (.int .i64 0) (.int .u8 0) (.int .u32 0) (.int .i64 0) (.int .u32 0) (.int .i64 0) (.int .u32 0) (.int .u16 0) (.int .u16 0) (.int .u32 0) (.int .u16 0) 42
          have fz : ∀ j, (ud.alloc (.cells #[.int .i64 0, .int .u8 0, .int .u32 0, .int .i64 0, .int .u32 0, .int .i64 0, .int .u32 0, .int .u16 0, .int .u16 0, .int .u32 0, .int .u16 0] 42)).frozen? ⟨ud.heap.size, j, none⟩ = false := by intro j; simp [go_sem]
          have lz := bd.size
          obtain ⟨wZ, hwZ⟩ : ∃ x_ : World, x_ = ud.alloc (.cells #[.int .i64 0, .int .u8 0, .int .u32 0, .int .i64 0, .int .u32 0, .int .i64 0, .int .u32 0, .int .u16 0, .int .u16 0, .int .u32 0, .int .u16 0] 42) := ⟨_, rfl⟩
          rw [← hwZ] at bZ Z fz ⊢
          clear hwZ
          obtain ⟨zb, hzb⟩ : ∃ x_ : Nat, x_ = ud.heap.size := ⟨_, rfl⟩
          rw [← hzb] at Z fz lz ⊢
          clear hzb
          have cX := rule_cells HI HR Hn RZ.out (B110.trans (bZ.mono B110.size))
          refine hK.out _ _ ⟨cX.2.1, cX.2.2.2.2.2.2.1, cX.2.2.2.2.2.2.2.1⟩ (fun hH => ?_)
          clear hK K cX
          have hHeld := hH
          clear hH
          try simp only [Act.put, List.setIfInBounds_toArray, List.set_cons_zero, List.set_cons_succ]
          clear hHeld
          refine wpAnyH_ready (rs := [17]) (by kernel_rfl) (by simp) ?_
          refine AllReadyH.cons (o := _) rfl (fun K hK => ?_) AllReadyH.nil
          go_simp
          refine (sC _ (T_109.on bZ)).mono ?_; rintro e wA ⟨rfl, xA⟩
          have bA := bZ.trans (xA.mono bZ.size)
          show K _ _
          have Z2 := Z.on xA
          have fz2 : ∀ j, wA.frozen? ⟨zb, j, none⟩ = false := fun j => (xA.frozen (p := ⟨_, j, none⟩) Z.1).trans (fz j)
          clear Z fz
          have cX := rule_cells HI HR Hn RZ.out (B110.trans (bA.mono B110.size))
          refine hK.out _ _ ⟨cX.2.1, cX.2.2.2.2.2.2.1, cX.2.2.2.2.2.2.2.1⟩ (fun hH => ?_)
          clear hK K cX
          have hHeld := hH
          clear hH
          try simp only [Act.put, List.setIfInBounds_toArray, List.set_cons_zero, List.set_cons_succ]
          refine wpAnyH_take (i := 18) (oi := _) (v := ?_) rfl (by kernel_rfl) (by kernel_rfl) (by kernel_rfl) (fun _ _ _ h => h) (Or.inl ⟨by kernel_rfl, ?_⟩) (by assumption) ?_
          rotate_left
          · intro w hSw
            clear hSw
            go_simp
            with_reducible rfl
          try simp only [Act.put, List.setIfInBounds_toArray, List.set_cons_zero, List.set_cons_succ]
          refine wpAnyH_take (i := 19) (oi := _) (v := ?_) rfl (by kernel_rfl) (by kernel_rfl) (by kernel_rfl) (fun _ _ _ h => h) (Or.inl ⟨by kernel_rfl, ?_⟩) (by assumption) ?_
          rotate_left
          · intro w hSw
            clear hSw
            go_simp
            with_reducible rfl
          try simp only [Act.put, List.setIfInBounds_toArray, List.set_cons_zero, List.set_cons_succ]
          refine wpAnyH_take (i := 20) (oi := _) (v := ?_) rfl (by kernel_rfl) (by kernel_rfl) (by kernel_rfl) (fun _ _ _ h => h) (Or.inl ⟨by kernel_rfl, ?_⟩) (by assumption) ?_
          rotate_left
          · intro w hSw
            clear hSw
            go_simp
            with_reducible rfl
          try simp only [Act.put, List.setIfInBounds_toArray, List.set_cons_zero, List.set_cons_succ]
          clear hHeld
          obtain ⟨_, y0, y1, y2, y3, y4, y5, y6, y7, y8, y9, y10⟩ := id Z2
          refine wpAnyH_ready (rs := [22]) (by kernel_rfl) (by simp) ?_
          refine AllReadyH.cons (o := _) rfl (fun K hK => ?_) AllReadyH.nil
          go_simp
          clear y0 y1 y2 y3 y4 y5 y6 y7 y8 y9 y10
          refine box11_ (M := fun X_ => K _ X_) (b := zb) Z2.some bA lz fun X x0_ x1_ x2_ x3_ x4_ x5_ x6_ x7_ x8_ x9_ x10_ BX far_ sz_ => ?_
          have AX : Box11 X zb (.int .i64 r.k) (.int .u8 r.pr) (.int .u32 (r.si : Int)) (.int .i64 r.sb) (.int .u32 (r.di : Int)) (.int .i64 r.db) (.int .u32 (r.ex : Int)) (.int .u16 r.fr) (.int .u16 r.to) (.int .u32 (r.ii : Int)) (.int .u16 r.ip) := ⟨by rw [sz_]; exact Z2.1, x0_, x1_, x2_, x3_, x4_, x5_, x6_, x7_, x8_, x9_, x10_⟩
          have cX := rule_cells HI HR Hn RZ.out (B110.trans (BX.mono B110.size))
          refine hK.out _ _ ⟨cX.2.1, cX.2.2.2.2.2.2.1, cX.2.2.2.2.2.2.2.1⟩ (fun hH => ?_)
          clear hK K cX
          have hHeld := hH
          clear hH
          try simp only [Act.put, List.setIfInBounds_toArray, List.set_cons_zero, List.set_cons_succ]
          refine wpAnyH_take (i := 23) (oi := _) (v := ?_) rfl (by kernel_rfl) (by kernel_rfl) (by kernel_rfl) (fun _ _ _ h => h) (Or.inl ⟨by kernel_rfl, ?_⟩) (by assumption) ?_
          rotate_left
          · intro w hSw
            clear hSw
            go_simp
            with_reducible rfl
          try simp only [Act.put, List.setIfInBounds_toArray, List.set_cons_zero, List.set_cons_succ]
          simp only [List.getElem_toArray, List.getElem_cons_succ, List.getElem_cons_zero, Act.put, List.setIfInBounds_toArray, List.set_cons_zero, List.set_cons_succ]
          refine wpAnyH_done (by kernel_rfl) ?_ _
          clear hHeld
          go_wp2
          go_meet
          exact ⟨zb, rfl, rfl, BX, AX, lz⟩
      case rest =>
        obtain ⟨b7, rfl, rfl, bx, A0, lb7⟩ := hcut
        have BN111 := B110.trans (bx.mono B110.size)
        have TN111 := T_109.on bx
        clear B110 T_109 bx
        obtain ⟨v111, hv111⟩ : ∃ x_ : World, x_ = wc := ⟨_, rfl⟩
        rw [← hv111] at A0 TN111 BN111 ⊢
        clear hv111
        clear sC
        obtain ⟨c0, c1, c2, c3, c4, c5, c6, c7, c8, c9_, c10⟩ := rule_cells HI HR Hn RZ.out BN111
        go_upto_region 14 with fail
        clear c0 c1 c2 c3 c4 c5 c6 c7 c8 c9_ c10
        obtain ⟨u27, hu27⟩ : ∃ x_ : World, x_ = v111 := ⟨_, rfl⟩
        rw [← hu27] at A0 TN111 BN111 ⊢
        clear hu27
        go_cut [9, 10] (fun s7 s8 wx => ∃ b, s7 = .pointer (some ⟨b, 0, none⟩) ∧ s8 = .bool true ∧ Below u27.heap.size u27 wx ∧ Box11 wx b (.int .i64 r.k) (.int .u8 r.pr) (.int .u32 (r.si : Int)) (.int .i64 r.sb) (.int .u32 (r.di : Int)) (.int .i64 r.db) (.int .u32 (r.ex : Int)) (.int .u16 r.fr) (.int .u16 r.to) (.int .u32 (r.ii : Int)) (.int .u16 r.ip) ∧ u27.heap.size ≤ b)
        case first =>
          have bd := (Below.refl u27.heap.size u27).drew
          have cX := rule_cells HI HR Hn RZ.out (BN111.trans (bd.mono BN111.size))
          refine wp_region_held_drew (S := (fun w' => w'.cell? ⟨b9, i * 11 + 1, none⟩ = some (.int .u8 r.pr) ∧ w'.cell? ⟨b9, i * 11 + 9, none⟩ = some (.int .u32 (r.ii : Int)) ∧ w'.cell? ⟨b9, i * 11 + 10, none⟩ = some (.int .u16 r.ip))) (by kernel_rfl) ?_ (fun hHeld => ?_)
          · exact ⟨cX.2.1, cX.2.2.2.2.2.2.2.2.2.1, cX.2.2.2.2.2.2.2.2.2.2⟩
          clear cX
          obtain ⟨ud, hud⟩ : ∃ x_ : World, x_ = u27.drew := ⟨_, rfl⟩
          rw [← hud] at bd hHeld ⊢
          clear hud
          refine wpAnyH_take (i := 0) (oi := _) (v := ?_) rfl (by kernel_rfl) (by kernel_rfl) (by kernel_rfl) (fun _ _ _ h => h) (Or.inl ⟨by kernel_rfl, ?_⟩) (by assumption) ?_
          rotate_left
          · intro w hSw
            (try dsimp only at hSw)
            obtain ⟨hq0, hq1, hq2⟩ := hSw
            go_simp
            with_reducible rfl
          try simp only [Act.put, List.setIfInBounds_toArray, List.set_cons_zero, List.set_cons_succ]
          refine wpAnyH_take (i := 1) (oi := _) (v := ?_) rfl (by kernel_rfl) (by kernel_rfl) (by kernel_rfl) (fun _ _ _ h => h) (Or.inl ⟨by kernel_rfl, ?_⟩) (by assumption) ?_
          rotate_left
          · intro w hSw
            (try dsimp only at hSw)
            obtain ⟨hq0, hq1, hq2⟩ := hSw
            go_simp
            with_reducible rfl
          try simp only [Act.put, List.setIfInBounds_toArray, List.set_cons_zero, List.set_cons_succ]
          refine wpAnyH_take (i := 2) (oi := _) (v := ?_) rfl (by kernel_rfl) (by kernel_rfl) (by kernel_rfl) (fun _ _ _ h => h) (Or.inl ⟨by kernel_rfl, ?_⟩) (by assumption) ?_
          rotate_left
          · intro w hSw
            (try dsimp only at hSw)
            obtain ⟨hq0, hq1, hq2⟩ := hSw
            go_simp
            with_reducible rfl
          try simp only [Act.put, List.setIfInBounds_toArray, List.set_cons_zero, List.set_cons_succ]
          refine wpAnyH_take (i := 3) (oi := _) (v := ?_) rfl (by kernel_rfl) (by kernel_rfl) (by kernel_rfl) (fun _ _ _ h => h) (Or.inl ⟨by kernel_rfl, ?_⟩) (by assumption) ?_
          rotate_left
          · intro w hSw
            (try dsimp only at hSw)
            obtain ⟨hq0, hq1, hq2⟩ := hSw
            go_simp
            with_reducible rfl
          try simp only [Act.put, List.setIfInBounds_toArray, List.set_cons_zero, List.set_cons_succ]
          refine wpAnyH_take (i := 4) (oi := _) (v := ?_) rfl (by kernel_rfl) (by kernel_rfl) (by kernel_rfl) (fun _ _ _ h => h) (Or.inl ⟨by kernel_rfl, ?_⟩) (by assumption) ?_
          rotate_left
          · intro w hSw
            (try dsimp only at hSw)
            obtain ⟨hq0, hq1, hq2⟩ := hSw
            go_simp
            with_reducible rfl
          try simp only [Act.put, List.setIfInBounds_toArray, List.set_cons_zero, List.set_cons_succ]
          refine wpAnyH_take (i := 5) (oi := _) (v := ?_) rfl (by kernel_rfl) (by kernel_rfl) (by kernel_rfl) (fun _ _ _ h => h) (Or.inl ⟨by kernel_rfl, ?_⟩) (by assumption) ?_
          rotate_left
          · intro w hSw
            (try dsimp only at hSw)
            obtain ⟨hq0, hq1, hq2⟩ := hSw
            go_simp
            with_reducible rfl
          try simp only [Act.put, List.setIfInBounds_toArray, List.set_cons_zero, List.set_cons_succ]
          refine wpAnyH_take (i := 6) (oi := _) (v := ?_) rfl (by kernel_rfl) (by kernel_rfl) (by kernel_rfl) (fun _ _ _ h => h) (Or.inl ⟨by kernel_rfl, ?_⟩) (by assumption) ?_
          rotate_left
          · intro w hSw
            (try dsimp only at hSw)
            obtain ⟨hq0, hq1, hq2⟩ := hSw
            go_simp
            with_reducible rfl
          try simp only [Act.put, List.setIfInBounds_toArray, List.set_cons_zero, List.set_cons_succ]
          refine wpAnyH_take (i := 7) (oi := _) (v := ?_) rfl (by kernel_rfl) (by kernel_rfl) (by kernel_rfl) (fun _ _ _ h => h) (Or.inl ⟨by kernel_rfl, ?_⟩) (by assumption) ?_
          rotate_left
          · intro w hSw
            (try dsimp only at hSw)
            obtain ⟨hq0, hq1, hq2⟩ := hSw
            go_simp
            with_reducible rfl
          try simp only [Act.put, List.setIfInBounds_toArray, List.set_cons_zero, List.set_cons_succ]
          refine wpAnyH_take (i := 8) (oi := _) (v := ?_) rfl (by kernel_rfl) (by kernel_rfl) (by kernel_rfl) (fun _ _ _ h => h) (Or.inl ⟨by kernel_rfl, ?_⟩) (by assumption) ?_
          rotate_left
          · intro w hSw
            (try dsimp only at hSw)
            obtain ⟨hq0, hq1, hq2⟩ := hSw
            go_simp
            with_reducible rfl
          try simp only [Act.put, List.setIfInBounds_toArray, List.set_cons_zero, List.set_cons_succ]
          refine wpAnyH_take (i := 9) (oi := _) (v := ?_) rfl (by kernel_rfl) (by kernel_rfl) (by kernel_rfl) (fun _ _ _ h => h) (Or.inl ⟨by kernel_rfl, ?_⟩) (by assumption) ?_
          rotate_left
          · intro w hSw
            (try dsimp only at hSw)
            obtain ⟨hq0, hq1, hq2⟩ := hSw
            go_simp
            with_reducible rfl
          try simp only [Act.put, List.setIfInBounds_toArray, List.set_cons_zero, List.set_cons_succ]
          refine wpAnyH_take (i := 10) (oi := _) (v := ?_) rfl (by kernel_rfl) (by kernel_rfl) (by kernel_rfl) (fun _ _ _ h => h) (Or.inl ⟨by kernel_rfl, ?_⟩) (by assumption) ?_
          rotate_left
          · intro w hSw
            (try dsimp only at hSw)
            obtain ⟨hq0, hq1, hq2⟩ := hSw
            go_simp
            with_reducible rfl
          try simp only [Act.put, List.setIfInBounds_toArray, List.set_cons_zero, List.set_cons_succ]
          clear hHeld
          refine wpAnyH_ready (rs := [11, 15]) (by kernel_rfl) (by simp) ?_
          refine AllReadyH.cons (o := _) rfl (fun K hK => ?_) (AllReadyH.cons (o := _) rfl (fun K hK => ?_) AllReadyH.nil)
          · go_simp
            refine (oC _ (TN111.on bd)).mono ?_; rintro e wA ⟨rfl, xA⟩
            have bA := bd.trans (xA.mono bd.size)
            show K _ _
            have cX := rule_cells HI HR Hn RZ.out (BN111.trans (bA.mono BN111.size))
            refine hK.out _ _ ⟨cX.2.1, cX.2.2.2.2.2.2.2.2.2.1, cX.2.2.2.2.2.2.2.2.2.2⟩ (fun hH => ?_)
            clear hK K cX
            have hHeld := hH
            clear hH
            try simp only [Act.put, List.setIfInBounds_toArray, List.set_cons_zero, List.set_cons_succ]
            refine wpAnyH_take (i := 12) (oi := _) (v := ?_) rfl (by kernel_rfl) (by kernel_rfl) (by kernel_rfl) (fun _ _ _ h => h) (Or.inl ⟨by kernel_rfl, ?_⟩) (by assumption) ?_
            rotate_left
            · intro w hSw
              clear hSw
              go_simp
              with_reducible rfl
            try simp only [Act.put, List.setIfInBounds_toArray, List.set_cons_zero, List.set_cons_succ]
            refine wpAnyH_take (i := 13) (oi := _) (v := ?_) rfl (by kernel_rfl) (by kernel_rfl) (by kernel_rfl) (fun _ _ _ h => h) (Or.inl ⟨by kernel_rfl, ?_⟩) (by assumption) ?_
            rotate_left
            · intro w hSw
              clear hSw
              go_simp
              with_reducible rfl
            try simp only [Act.put, List.setIfInBounds_toArray, List.set_cons_zero, List.set_cons_succ]
            refine wpAnyH_take (i := 14) (oi := _) (v := ?_) rfl (by kernel_rfl) (by kernel_rfl) (by kernel_rfl) (fun _ _ _ h => h) (Or.inl ⟨by kernel_rfl, ?_⟩) (by assumption) ?_
            rotate_left
            · intro w hSw
              clear hSw
              go_simp
              with_reducible rfl
            try simp only [Act.put, List.setIfInBounds_toArray, List.set_cons_zero, List.set_cons_succ]
            clear hHeld
            refine wpAnyH_ready (rs := [15]) (by kernel_rfl) (by simp) ?_
            refine AllReadyH.cons (o := _) rfl (fun K hK => ?_) AllReadyH.nil
            go_simp
            have bZ := bA.alloc bA.size (.cells #[.int .i64 0, .int .u8 0, .int .u32 0, .int .i64 0, .int .u32 0, .int .i64 0, .int .u32 0, .int .u16 0, .int .u16 0, .int .u32 0, .int .u16 0] 42)
            have Z := Box11.make wA (.int .i64 0) (.int .u8 0) (.int .u32 0) (.int .i64 0) (.int .u32 0) (.int .i64 0) (.int .u32 0) (.int .u16 0) (.int .u16 0) (.int .u32 0) (.int .u16 0) 42
            have fz : ∀ j, (wA.alloc (.cells #[.int .i64 0, .int .u8 0, .int .u32 0, .int .i64 0, .int .u32 0, .int .i64 0, .int .u32 0, .int .u16 0, .int .u16 0, .int .u32 0, .int .u16 0] 42)).frozen? ⟨wA.heap.size, j, none⟩ = false := by intro j; simp [go_sem]
            have lz := bA.size
            obtain ⟨wZ, hwZ⟩ : ∃ x_ : World, x_ = wA.alloc (.cells #[.int .i64 0, .int .u8 0, .int .u32 0, .int .i64 0, .int .u32 0, .int .i64 0, .int .u32 0, .int .u16 0, .int .u16 0, .int .u32 0, .int .u16 0] 42) := ⟨_, rfl⟩
            rw [← hwZ] at bZ Z fz ⊢
            clear hwZ
            obtain ⟨zb, hzb⟩ : ∃ x_ : Nat, x_ = wA.heap.size := ⟨_, rfl⟩
            rw [← hzb] at Z fz lz ⊢
            clear hzb
            have cX := rule_cells HI HR Hn RZ.out (BN111.trans (bZ.mono BN111.size))
            refine hK.out _ _ ⟨cX.2.1, cX.2.2.2.2.2.2.2.2.2.1, cX.2.2.2.2.2.2.2.2.2.2⟩ (fun hH => ?_)
            clear hK K cX
            have hHeld := hH
            clear hH
            try simp only [Act.put, List.setIfInBounds_toArray, List.set_cons_zero, List.set_cons_succ]
            clear hHeld
            obtain ⟨_, y0, y1, y2, y3, y4, y5, y6, y7, y8, y9, y10⟩ := id Z
            refine wpAnyH_ready (rs := [16]) (by kernel_rfl) (by simp) ?_
            refine AllReadyH.cons (o := _) rfl (fun K hK => ?_) AllReadyH.nil
            go_simp
            clear y0 y1 y2 y3 y4 y5 y6 y7 y8 y9 y10
            refine box11_ (M := fun X_ => K _ X_) (b := zb) Z.some bZ lz fun X x0_ x1_ x2_ x3_ x4_ x5_ x6_ x7_ x8_ x9_ x10_ BX far_ sz_ => ?_
            have AX : Box11 X zb (.int .i64 r.k) (.int .u8 r.pr) (.int .u32 (r.si : Int)) (.int .i64 r.sb) (.int .u32 (r.di : Int)) (.int .i64 r.db) (.int .u32 (r.ex : Int)) (.int .u16 r.fr) (.int .u16 r.to) (.int .u32 (r.ii : Int)) (.int .u16 r.ip) := ⟨by rw [sz_]; exact Z.1, x0_, x1_, x2_, x3_, x4_, x5_, x6_, x7_, x8_, x9_, x10_⟩
            have cX := rule_cells HI HR Hn RZ.out (BN111.trans (BX.mono BN111.size))
            refine hK.out _ _ ⟨cX.2.1, cX.2.2.2.2.2.2.2.2.2.1, cX.2.2.2.2.2.2.2.2.2.2⟩ (fun hH => ?_)
            clear hK K cX
            have hHeld := hH
            clear hH
            try simp only [Act.put, List.setIfInBounds_toArray, List.set_cons_zero, List.set_cons_succ]
            refine wpAnyH_take (i := 17) (oi := _) (v := ?_) rfl (by kernel_rfl) (by kernel_rfl) (by kernel_rfl) (fun _ _ _ h => h) (Or.inl ⟨by kernel_rfl, ?_⟩) (by assumption) ?_
            rotate_left
            · intro w hSw
              clear hSw
              go_simp
              with_reducible rfl
            try simp only [Act.put, List.setIfInBounds_toArray, List.set_cons_zero, List.set_cons_succ]
            simp only [List.getElem_toArray, List.getElem_cons_succ, List.getElem_cons_zero, Act.put, List.setIfInBounds_toArray, List.set_cons_zero, List.set_cons_succ]
            refine wpAnyH_done (by kernel_rfl) ?_ _
            clear hHeld
            go_wp2
            go_meet
            exact ⟨zb, rfl, rfl, BX, AX, lz⟩
          · go_simp
            have bZ := bd.alloc bd.size (.cells #[.int .i64 0, .int .u8 0, .int .u32 0, .int .i64 0, .int .u32 0, .int .i64 0, .int .u32 0, .int .u16 0, .int .u16 0, .int .u32 0, .int .u16 0] 42)
            have Z := Box11.make ud (.int .i64 0) (.int .u8 0) (.int .u32 0) (.int .i64 0) (.int .u32 0) (.int .i64 0) (.int .u32 0) (.int .u16 0) (.int .u16 0) (.int .u32 0) (.int .u16 0) 42
            have fz : ∀ j, (ud.alloc (.cells #[.int .i64 0, .int .u8 0, .int .u32 0, .int .i64 0, .int .u32 0, .int .i64 0, .int .u32 0, .int .u16 0, .int .u16 0, .int .u32 0, .int .u16 0] 42)).frozen? ⟨ud.heap.size, j, none⟩ = false := by intro j; simp [go_sem]
            have lz := bd.size
            obtain ⟨wZ, hwZ⟩ : ∃ x_ : World, x_ = ud.alloc (.cells #[.int .i64 0, .int .u8 0, .int .u32 0, .int .i64 0, .int .u32 0, .int .i64 0, .int .u32 0, .int .u16 0, .int .u16 0, .int .u32 0, .int .u16 0] 42) := ⟨_, rfl⟩
            rw [← hwZ] at bZ Z fz ⊢
            clear hwZ
            obtain ⟨zb, hzb⟩ : ∃ x_ : Nat, x_ = ud.heap.size := ⟨_, rfl⟩
            rw [← hzb] at Z fz lz ⊢
            clear hzb
            have cX := rule_cells HI HR Hn RZ.out (BN111.trans (bZ.mono BN111.size))
            refine hK.out _ _ ⟨cX.2.1, cX.2.2.2.2.2.2.2.2.2.1, cX.2.2.2.2.2.2.2.2.2.2⟩ (fun hH => ?_)
            clear hK K cX
            have hHeld := hH
            clear hH
            try simp only [Act.put, List.setIfInBounds_toArray, List.set_cons_zero, List.set_cons_succ]
            clear hHeld
            refine wpAnyH_ready (rs := [11]) (by kernel_rfl) (by simp) ?_
            refine AllReadyH.cons (o := _) rfl (fun K hK => ?_) AllReadyH.nil
            go_simp
            refine (oC _ (TN111.on bZ)).mono ?_; rintro e wA ⟨rfl, xA⟩
            have bA := bZ.trans (xA.mono bZ.size)
            show K _ _
            have Z2 := Z.on xA
            have fz2 : ∀ j, wA.frozen? ⟨zb, j, none⟩ = false := fun j => (xA.frozen (p := ⟨_, j, none⟩) Z.1).trans (fz j)
            clear Z fz
            have cX := rule_cells HI HR Hn RZ.out (BN111.trans (bA.mono BN111.size))
            refine hK.out _ _ ⟨cX.2.1, cX.2.2.2.2.2.2.2.2.2.1, cX.2.2.2.2.2.2.2.2.2.2⟩ (fun hH => ?_)
            clear hK K cX
            have hHeld := hH
            clear hH
            try simp only [Act.put, List.setIfInBounds_toArray, List.set_cons_zero, List.set_cons_succ]
            refine wpAnyH_take (i := 12) (oi := _) (v := ?_) rfl (by kernel_rfl) (by kernel_rfl) (by kernel_rfl) (fun _ _ _ h => h) (Or.inl ⟨by kernel_rfl, ?_⟩) (by assumption) ?_
            rotate_left
            · intro w hSw
              clear hSw
              go_simp
              with_reducible rfl
            try simp only [Act.put, List.setIfInBounds_toArray, List.set_cons_zero, List.set_cons_succ]
            refine wpAnyH_take (i := 13) (oi := _) (v := ?_) rfl (by kernel_rfl) (by kernel_rfl) (by kernel_rfl) (fun _ _ _ h => h) (Or.inl ⟨by kernel_rfl, ?_⟩) (by assumption) ?_
            rotate_left
            · intro w hSw
              clear hSw
              go_simp
              with_reducible rfl
            try simp only [Act.put, List.setIfInBounds_toArray, List.set_cons_zero, List.set_cons_succ]
            refine wpAnyH_take (i := 14) (oi := _) (v := ?_) rfl (by kernel_rfl) (by kernel_rfl) (by kernel_rfl) (fun _ _ _ h => h) (Or.inl ⟨by kernel_rfl, ?_⟩) (by assumption) ?_
            rotate_left
            · intro w hSw
              clear hSw
              go_simp
              with_reducible rfl
            try simp only [Act.put, List.setIfInBounds_toArray, List.set_cons_zero, List.set_cons_succ]
            clear hHeld
            obtain ⟨_, y0, y1, y2, y3, y4, y5, y6, y7, y8, y9, y10⟩ := id Z2
            refine wpAnyH_ready (rs := [16]) (by kernel_rfl) (by simp) ?_
            refine AllReadyH.cons (o := _) rfl (fun K hK => ?_) AllReadyH.nil
            go_simp
            clear y0 y1 y2 y3 y4 y5 y6 y7 y8 y9 y10
            refine box11_ (M := fun X_ => K _ X_) (b := zb) Z2.some bA lz fun X x0_ x1_ x2_ x3_ x4_ x5_ x6_ x7_ x8_ x9_ x10_ BX far_ sz_ => ?_
            have AX : Box11 X zb (.int .i64 r.k) (.int .u8 r.pr) (.int .u32 (r.si : Int)) (.int .i64 r.sb) (.int .u32 (r.di : Int)) (.int .i64 r.db) (.int .u32 (r.ex : Int)) (.int .u16 r.fr) (.int .u16 r.to) (.int .u32 (r.ii : Int)) (.int .u16 r.ip) := ⟨by rw [sz_]; exact Z2.1, x0_, x1_, x2_, x3_, x4_, x5_, x6_, x7_, x8_, x9_, x10_⟩
            have cX := rule_cells HI HR Hn RZ.out (BN111.trans (BX.mono BN111.size))
            refine hK.out _ _ ⟨cX.2.1, cX.2.2.2.2.2.2.2.2.2.1, cX.2.2.2.2.2.2.2.2.2.2⟩ (fun hH => ?_)
            clear hK K cX
            have hHeld := hH
            clear hH
            try simp only [Act.put, List.setIfInBounds_toArray, List.set_cons_zero, List.set_cons_succ]
            refine wpAnyH_take (i := 17) (oi := _) (v := ?_) rfl (by kernel_rfl) (by kernel_rfl) (by kernel_rfl) (fun _ _ _ h => h) (Or.inl ⟨by kernel_rfl, ?_⟩) (by assumption) ?_
            rotate_left
            · intro w hSw
              clear hSw
              go_simp
              with_reducible rfl
            try simp only [Act.put, List.setIfInBounds_toArray, List.set_cons_zero, List.set_cons_succ]
            simp only [List.getElem_toArray, List.getElem_cons_succ, List.getElem_cons_zero, Act.put, List.setIfInBounds_toArray, List.set_cons_zero, List.set_cons_succ]
            refine wpAnyH_done (by kernel_rfl) ?_ _
            clear hHeld
            go_wp2
            go_meet
            exact ⟨zb, rfl, rfl, BX, AX, lz⟩
        case rest =>
          obtain ⟨b10, rfl, rfl, bx, C0, lb10⟩ := hcut
          have BN112 := BN111.trans (bx.mono BN111.size)
          have TN112 := TN111.on bx
          have A_n112 := A0.on bx
          clear A0
          clear BN111 TN111 bx
          obtain ⟨v112, hv112⟩ : ∃ x_ : World, x_ = wc := ⟨_, rfl⟩
          rw [← hv112] at A_n112 C0 TN112 BN112 ⊢
          clear hv112
          clear oC
          go_upto_region 15 with fail
          obtain ⟨za, ga0, ga1, ga2, ga3, ga4, ga5, ga6, ga7, ga8, ga9, ga10⟩ := id A_n112
          have FA0 : ∀ q_ : Later v112.heap.size v112, q_.u.cell? ⟨b7, 0, none⟩ = some (.int .i64 r.k) := fun q_ => q_.block za ga0
          have FA1 : ∀ q_ : Later v112.heap.size v112, q_.u.cell? ⟨b7, 1, none⟩ = some (.int .u8 r.pr) := fun q_ => q_.block za ga1
          have FA2 : ∀ q_ : Later v112.heap.size v112, q_.u.cell? ⟨b7, 2, none⟩ = some (.int .u32 (r.si : Int)) := fun q_ => q_.block za ga2
          have FA3 : ∀ q_ : Later v112.heap.size v112, q_.u.cell? ⟨b7, 3, none⟩ = some (.int .i64 r.sb) := fun q_ => q_.block za ga3
          have FA4 : ∀ q_ : Later v112.heap.size v112, q_.u.cell? ⟨b7, 4, none⟩ = some (.int .u32 (r.di : Int)) := fun q_ => q_.block za ga4
          have FA5 : ∀ q_ : Later v112.heap.size v112, q_.u.cell? ⟨b7, 5, none⟩ = some (.int .i64 r.db) := fun q_ => q_.block za ga5
          have FA6 : ∀ q_ : Later v112.heap.size v112, q_.u.cell? ⟨b7, 6, none⟩ = some (.int .u32 (r.ex : Int)) := fun q_ => q_.block za ga6
          have FA7 : ∀ q_ : Later v112.heap.size v112, q_.u.cell? ⟨b7, 7, none⟩ = some (.int .u16 r.fr) := fun q_ => q_.block za ga7
          have FA8 : ∀ q_ : Later v112.heap.size v112, q_.u.cell? ⟨b7, 8, none⟩ = some (.int .u16 r.to) := fun q_ => q_.block za ga8
          have FA9 : ∀ q_ : Later v112.heap.size v112, q_.u.cell? ⟨b7, 9, none⟩ = some (.int .u32 (r.ii : Int)) := fun q_ => q_.block za ga9
          have FA10 : ∀ q_ : Later v112.heap.size v112, q_.u.cell? ⟨b7, 10, none⟩ = some (.int .u16 r.ip) := fun q_ => q_.block za ga10
          clear ga0 ga1 ga2 ga3 ga4 ga5 ga6 ga7 ga8 ga9 ga10 za
          obtain ⟨zc, gc0, gc1, gc2, gc3, gc4, gc5, gc6, gc7, gc8, gc9, gc10⟩ := id C0
          have FC0 : ∀ q_ : Later v112.heap.size v112, q_.u.cell? ⟨b10, 0, none⟩ = some (.int .i64 r.k) := fun q_ => q_.block zc gc0
          have FC1 : ∀ q_ : Later v112.heap.size v112, q_.u.cell? ⟨b10, 1, none⟩ = some (.int .u8 r.pr) := fun q_ => q_.block zc gc1
          have FC2 : ∀ q_ : Later v112.heap.size v112, q_.u.cell? ⟨b10, 2, none⟩ = some (.int .u32 (r.si : Int)) := fun q_ => q_.block zc gc2
          have FC3 : ∀ q_ : Later v112.heap.size v112, q_.u.cell? ⟨b10, 3, none⟩ = some (.int .i64 r.sb) := fun q_ => q_.block zc gc3
          have FC4 : ∀ q_ : Later v112.heap.size v112, q_.u.cell? ⟨b10, 4, none⟩ = some (.int .u32 (r.di : Int)) := fun q_ => q_.block zc gc4
          have FC5 : ∀ q_ : Later v112.heap.size v112, q_.u.cell? ⟨b10, 5, none⟩ = some (.int .i64 r.db) := fun q_ => q_.block zc gc5
          have FC6 : ∀ q_ : Later v112.heap.size v112, q_.u.cell? ⟨b10, 6, none⟩ = some (.int .u32 (r.ex : Int)) := fun q_ => q_.block zc gc6
          have FC7 : ∀ q_ : Later v112.heap.size v112, q_.u.cell? ⟨b10, 7, none⟩ = some (.int .u16 r.fr) := fun q_ => q_.block zc gc7
          have FC8 : ∀ q_ : Later v112.heap.size v112, q_.u.cell? ⟨b10, 8, none⟩ = some (.int .u16 r.to) := fun q_ => q_.block zc gc8
          have FC9 : ∀ q_ : Later v112.heap.size v112, q_.u.cell? ⟨b10, 9, none⟩ = some (.int .u32 (r.ii : Int)) := fun q_ => q_.block zc gc9
          have FC10 : ∀ q_ : Later v112.heap.size v112, q_.u.cell? ⟨b10, 10, none⟩ = some (.int .u16 r.ip) := fun q_ => q_.block zc gc10
          clear gc0 gc1 gc2 gc3 gc4 gc5 gc6 gc7 gc8 gc9 gc10 zc
          have FR0 : ∀ q_ : Later v112.heap.size v112, q_.u.cell? ⟨b9, i * 11, none⟩ = some (.int .i64 r.k) := fun q_ => rcell0 HI HR Hn RZ.out (BN112.trans (q_.h.mono BN112.size))
          have FR1 : ∀ q_ : Later v112.heap.size v112, q_.u.cell? ⟨b9, i * 11 + 1, none⟩ = some (.int .u8 r.pr) := fun q_ => rcell1 HI HR Hn RZ.out (BN112.trans (q_.h.mono BN112.size))
          have FR2 : ∀ q_ : Later v112.heap.size v112, q_.u.cell? ⟨b9, i * 11 + 2, none⟩ = some (.int .u32 (r.si : Int)) := fun q_ => rcell2 HI HR Hn RZ.out (BN112.trans (q_.h.mono BN112.size))
          have FR3 : ∀ q_ : Later v112.heap.size v112, q_.u.cell? ⟨b9, i * 11 + 3, none⟩ = some (.int .i64 r.sb) := fun q_ => rcell3 HI HR Hn RZ.out (BN112.trans (q_.h.mono BN112.size))
          have FR4 : ∀ q_ : Later v112.heap.size v112, q_.u.cell? ⟨b9, i * 11 + 4, none⟩ = some (.int .u32 (r.di : Int)) := fun q_ => rcell4 HI HR Hn RZ.out (BN112.trans (q_.h.mono BN112.size))
          have FR5 : ∀ q_ : Later v112.heap.size v112, q_.u.cell? ⟨b9, i * 11 + 5, none⟩ = some (.int .i64 r.db) := fun q_ => rcell5 HI HR Hn RZ.out (BN112.trans (q_.h.mono BN112.size))
          have FR6 : ∀ q_ : Later v112.heap.size v112, q_.u.cell? ⟨b9, i * 11 + 6, none⟩ = some (.int .u32 (r.ex : Int)) := fun q_ => rcell6 HI HR Hn RZ.out (BN112.trans (q_.h.mono BN112.size))
          have FR7 : ∀ q_ : Later v112.heap.size v112, q_.u.cell? ⟨b9, i * 11 + 7, none⟩ = some (.int .u16 r.fr) := fun q_ => rcell7 HI HR Hn RZ.out (BN112.trans (q_.h.mono BN112.size))
          have FR8 : ∀ q_ : Later v112.heap.size v112, q_.u.cell? ⟨b9, i * 11 + 8, none⟩ = some (.int .u16 r.to) := fun q_ => rcell8 HI HR Hn RZ.out (BN112.trans (q_.h.mono BN112.size))
          have FR9 : ∀ q_ : Later v112.heap.size v112, q_.u.cell? ⟨b9, i * 11 + 9, none⟩ = some (.int .u32 (r.ii : Int)) := fun q_ => rcell9 HI HR Hn RZ.out (BN112.trans (q_.h.mono BN112.size))
          have FR10 : ∀ q_ : Later v112.heap.size v112, q_.u.cell? ⟨b9, i * 11 + 10, none⟩ = some (.int .u16 r.ip) := fun q_ => rcell10 HI HR Hn RZ.out (BN112.trans (q_.h.mono BN112.size))
          refine region_later (B := v112.heap.size) (by kernel_rfl) (by kernel_rfl) ?_
          repeat (go_big_quiet_step (fail))
          refine later_end fun w70 x70 => ?_
          clear FA0 FA1 FA2 FA3 FA4 FA5 FA6 FA7 FA8 FA9 FA10 FC0 FC1 FC2 FC3 FC4 FC5 FC6 FC7 FC8 FC9 FC10 FR0 FR1 FR2 FR3 FR4 FR5 FR6 FR7 FR8 FR9 FR10
          have BM := BN112.trans (x70.mono BN112.size)
          have KZ := Lib.hid (And.intro HT.out HI.out)
          clear BN112 TN112 A_n112 C0 x70
          go_wp2_with fail
          go_loopw [11] (fun sk wr => ∃ k : Nat, k ≤ n ∧ sk = .int .i64 (k : Int) ∧ Below w70.heap.size w70 wr) (fun sk _ => n - (intOf sk).toNat)
          case atStart => exact ⟨0, Nat.zero_le _, rfl, Below.refl _ _⟩
          case round =>
            obtain ⟨k, hi, rfl, bq⟩ := hrel
            have BW := BM.trans (bq.mono BM.size)
            by_cases hlt : k < n
            rotate_left
            · have f10 : decide ((k : Int) < (n : Int)) = false := by simp; omega
              have f11 : decide (k < n) = false := by simp; omega
              clear hi hlt BM
              go_wp2_with fail
              go_roundw
              case rel => exact ⟨i + 1, HI.out, by go_num, BW⟩
              case measure => have := HI.out; simp [intOf]; omega
            have HK := Lib.hid hlt
            have f10 : decide ((k : Int) < (n : Int)) = true := by simp; omega
            have f11 : decide (k < n) = true := by simp; omega
            have f12 : (k : Int) < (n : Int) := by omega
            have hl2 : k < t.rs.length := by rw [Hn.out]; exact hlt
            obtain ⟨q, hq⟩ : ∃ q, q = t.rs.getD k Ru.zero := ⟨_, rfl⟩
            have HQ := Lib.hid hq
            have hno := apart_no HT.out.2.2.2 HT.out.2.2.1 (by rw [Hn.out]; exact HI.out) hl2 HR.out hq hk.out
            clear hq hl2 hi hlt
            go_upto_region 20 with fail
            go_cut [192] (fun c wx => c = .bool false ∧ Below wr.heap.size wr wx)
            case first =>
              simp only [List.append_eq, List.cons_append, List.nil_append]
              have fo := fun u => outerL_ q u
              obtain ⟨z1, p1, q1_, l1⟩ := eqi_ q.k 3
              obtain ⟨z2, p2, q2, l2⟩ := eqi_ q.pr 0
              obtain ⟨z3, p3, q3, l3⟩ := eqi_ q.pr r.pr
              obtain ⟨z4, p4, q4, l4⟩ := eqn_ (outL q) r.ex
              obtain ⟨z5, l5⟩ : ∃ z, decide (q.fr ≤ r.fr) = z := ⟨_, rfl⟩
              obtain ⟨z6, l6⟩ : ∃ z, decide (r.fr ≤ q.to) = z := ⟨_, rfl⟩
              rw [l1, l2, l3, l4, l5, l6] at hno
              clear l1 l2 l3 l4
              have key : z1 = true ∨ (z1 = false ∧ z2 = false ∧ z3 = false) ∨ (z1 = false ∧ (z2 = true ∨ (z2 = false ∧ z3 = true)) ∧ (z4 = false ∨ (z4 = true ∧ z5 = false) ∨ (z4 = true ∧ z5 = true ∧ z6 = false))) := by revert hno; cases z1 <;> cases z2 <;> cases z3 <;> cases z4 <;> cases z5 <;> cases z6 <;> simp
              clear hno
              generalize outL q = oq at *
              have FR0 : ∀ q_ : Later wr.heap.size wr, q_.u.cell? ⟨b9, i * 11, none⟩ = some (.int .i64 r.k) := fun q_ => rcell0 HI HR Hn RZ.out (BW.trans (q_.h.mono BW.size))
              have FR1 : ∀ q_ : Later wr.heap.size wr, q_.u.cell? ⟨b9, i * 11 + 1, none⟩ = some (.int .u8 r.pr) := fun q_ => rcell1 HI HR Hn RZ.out (BW.trans (q_.h.mono BW.size))
              have FR2 : ∀ q_ : Later wr.heap.size wr, q_.u.cell? ⟨b9, i * 11 + 2, none⟩ = some (.int .u32 (r.si : Int)) := fun q_ => rcell2 HI HR Hn RZ.out (BW.trans (q_.h.mono BW.size))
              have FR3 : ∀ q_ : Later wr.heap.size wr, q_.u.cell? ⟨b9, i * 11 + 3, none⟩ = some (.int .i64 r.sb) := fun q_ => rcell3 HI HR Hn RZ.out (BW.trans (q_.h.mono BW.size))
              have FR4 : ∀ q_ : Later wr.heap.size wr, q_.u.cell? ⟨b9, i * 11 + 4, none⟩ = some (.int .u32 (r.di : Int)) := fun q_ => rcell4 HI HR Hn RZ.out (BW.trans (q_.h.mono BW.size))
              have FR5 : ∀ q_ : Later wr.heap.size wr, q_.u.cell? ⟨b9, i * 11 + 5, none⟩ = some (.int .i64 r.db) := fun q_ => rcell5 HI HR Hn RZ.out (BW.trans (q_.h.mono BW.size))
              have FR6 : ∀ q_ : Later wr.heap.size wr, q_.u.cell? ⟨b9, i * 11 + 6, none⟩ = some (.int .u32 (r.ex : Int)) := fun q_ => rcell6 HI HR Hn RZ.out (BW.trans (q_.h.mono BW.size))
              have FR7 : ∀ q_ : Later wr.heap.size wr, q_.u.cell? ⟨b9, i * 11 + 7, none⟩ = some (.int .u16 r.fr) := fun q_ => rcell7 HI HR Hn RZ.out (BW.trans (q_.h.mono BW.size))
              have FR8 : ∀ q_ : Later wr.heap.size wr, q_.u.cell? ⟨b9, i * 11 + 8, none⟩ = some (.int .u16 r.to) := fun q_ => rcell8 HI HR Hn RZ.out (BW.trans (q_.h.mono BW.size))
              have FR9 : ∀ q_ : Later wr.heap.size wr, q_.u.cell? ⟨b9, i * 11 + 9, none⟩ = some (.int .u32 (r.ii : Int)) := fun q_ => rcell9 HI HR Hn RZ.out (BW.trans (q_.h.mono BW.size))
              have FR10 : ∀ q_ : Later wr.heap.size wr, q_.u.cell? ⟨b9, i * 11 + 10, none⟩ = some (.int .u16 r.ip) := fun q_ => rcell10 HI HR Hn RZ.out (BW.trans (q_.h.mono BW.size))
              have FQ0 : ∀ q_ : Later wr.heap.size wr, q_.u.cell? ⟨b9, k * 11, none⟩ = some (.int .i64 q.k) := fun q_ => rcell0 HK HQ Hn RZ.out (BW.trans (q_.h.mono BW.size))
              have FQ1 : ∀ q_ : Later wr.heap.size wr, q_.u.cell? ⟨b9, k * 11 + 1, none⟩ = some (.int .u8 q.pr) := fun q_ => rcell1 HK HQ Hn RZ.out (BW.trans (q_.h.mono BW.size))
              have FQ2 : ∀ q_ : Later wr.heap.size wr, q_.u.cell? ⟨b9, k * 11 + 2, none⟩ = some (.int .u32 (q.si : Int)) := fun q_ => rcell2 HK HQ Hn RZ.out (BW.trans (q_.h.mono BW.size))
              have FQ3 : ∀ q_ : Later wr.heap.size wr, q_.u.cell? ⟨b9, k * 11 + 3, none⟩ = some (.int .i64 q.sb) := fun q_ => rcell3 HK HQ Hn RZ.out (BW.trans (q_.h.mono BW.size))
              have FQ4 : ∀ q_ : Later wr.heap.size wr, q_.u.cell? ⟨b9, k * 11 + 4, none⟩ = some (.int .u32 (q.di : Int)) := fun q_ => rcell4 HK HQ Hn RZ.out (BW.trans (q_.h.mono BW.size))
              have FQ5 : ∀ q_ : Later wr.heap.size wr, q_.u.cell? ⟨b9, k * 11 + 5, none⟩ = some (.int .i64 q.db) := fun q_ => rcell5 HK HQ Hn RZ.out (BW.trans (q_.h.mono BW.size))
              have FQ6 : ∀ q_ : Later wr.heap.size wr, q_.u.cell? ⟨b9, k * 11 + 6, none⟩ = some (.int .u32 (q.ex : Int)) := fun q_ => rcell6 HK HQ Hn RZ.out (BW.trans (q_.h.mono BW.size))
              have FQ7 : ∀ q_ : Later wr.heap.size wr, q_.u.cell? ⟨b9, k * 11 + 7, none⟩ = some (.int .u16 q.fr) := fun q_ => rcell7 HK HQ Hn RZ.out (BW.trans (q_.h.mono BW.size))
              have FQ8 : ∀ q_ : Later wr.heap.size wr, q_.u.cell? ⟨b9, k * 11 + 8, none⟩ = some (.int .u16 q.to) := fun q_ => rcell8 HK HQ Hn RZ.out (BW.trans (q_.h.mono BW.size))
              have FQ9 : ∀ q_ : Later wr.heap.size wr, q_.u.cell? ⟨b9, k * 11 + 9, none⟩ = some (.int .u32 (q.ii : Int)) := fun q_ => rcell9 HK HQ Hn RZ.out (BW.trans (q_.h.mono BW.size))
              have FQ10 : ∀ q_ : Later wr.heap.size wr, q_.u.cell? ⟨b9, k * 11 + 10, none⟩ = some (.int .u16 q.ip) := fun q_ => rcell10 HK HQ Hn RZ.out (BW.trans (q_.h.mono BW.size))
              rcases key with rfl | ⟨rfl, rfl, rfl⟩ | ⟨rfl, hz, key⟩
              · clear fo
                as_aux_lemma =>
                  refine region_later (B := wr.heap.size) (by kernel_rfl) (by kernel_rfl) ?_
                  repeat (go_big_quiet_step (fail))
                  refine later_end fun w9 x9 => ?_
                  clear FR0 FR1 FR2 FR3 FR4 FR5 FR6 FR7 FR8 FR9 FR10 FQ0 FQ1 FQ2 FQ3 FQ4 FQ5 FQ6 FQ7 FQ8 FQ9 FQ10
                  go_wp2
                  go_meet
                  exact ⟨rfl, x9⟩
              · clear fo
                as_aux_lemma =>
                  refine region_later (B := wr.heap.size) (by kernel_rfl) (by kernel_rfl) ?_
                  repeat (go_big_quiet_step (fail))
                  refine later_end fun w9 x9 => ?_
                  clear FR0 FR1 FR2 FR3 FR4 FR5 FR6 FR7 FR8 FR9 FR10 FQ0 FQ1 FQ2 FQ3 FQ4 FQ5 FQ6 FQ7 FQ8 FQ9 FQ10
                  go_wp2
                  go_meet
                  exact ⟨rfl, x9⟩
              rcases hz with rfl | ⟨rfl, rfl⟩
              all_goals
                rcases key with rfl | ⟨rfl, rfl⟩ | ⟨rfl, rfl, rfl⟩
                all_goals
                  as_aux_lemma =>
                    refine region_later (B := wr.heap.size) (by kernel_rfl) (by kernel_rfl) ?_
                    repeat (go_big_quiet_step (first
                      | (go_at_call 31; exact later_of _ (Nat.le_refl _) (fo _))))
                    refine later_end fun w9 x9 => ?_
                    clear FR0 FR1 FR2 FR3 FR4 FR5 FR6 FR7 FR8 FR9 FR10 FQ0 FQ1 FQ2 FQ3 FQ4 FQ5 FQ6 FQ7 FQ8 FQ9 FQ10
                    go_wp2
                    go_meet
                    exact ⟨rfl, x9⟩
            case rest =>
              obtain ⟨rfl, bx⟩ := hcut
              have BX := bq.trans (bx.mono bq.size)
              clear bq bx BW
              go_wp2_with fail
              go_roundw
              case rel => exact ⟨k + 1, HK.out, by go_num, BX⟩
              case measure => have := HK.out; simp [intOf]; omega
end RulesApart
end Go.Proofs.Ytoogegpkgohffaa
namespace Go.Proofs.Ytoogegpkgohffaa
open Go.ChangeShapes Go.WideShapes Go.ChangeAt Go.RowKit Go.PlainAid
theorem RulesApart.walkI (a : Option Addr) (len cap : Nat) (ds : List Dr) (w : World) (hm : len ≤ maxLen) (D : DrAt w a len ds) :
    Calls Try.prog 6 #[.slice a len cap] w fun e w' => e = .returned (.bool true) ∧ Below w.heap.size w w' :=
  RulesApart.walk_ filled_ a len cap ds w D hm
end Go.Proofs.Ytoogegpkgohffaa
