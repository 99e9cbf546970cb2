/- Texts of this proof, together: TupNA, TupNS, TupNG, TupNO, TupNP, TupN. -/
import Derived.Test.YtidkgnanfhdhdaaDoorGm
import Derived.Test.YtidkgnanfhdhdaaDoorGo
import Derived.Test.YtidkgnanfhdhdaaDoorGc
import Derived.Test.YtidkgnanfhdhdaaDoorGk
import Derived.Test.YtidkgnanfhdhdaaDoorGd
import Derived.Test.YtidkgnanfhdhdaaDoorGe
import Derived.Test.YtidkgnanfhdhdaaDoorGi
import Derived.Test.YtidkgnanfhdhdaaDoorGg
import Derived.Test.YtidkgnanfhdhdaaDoorGl
import Derived.Test.YtidkgnanfhdhdaaDoorGn
import Derived.Test.YtidkgnanfhdhdaaDoorTupG
import Derived.BigRegion
import Derived.Deep.DeepCutAuto
namespace Go.Proofs.YtidkgnanfhdhdaaDoor
set_option linter.unusedVariables false
set_option linter.unusedSimpArgs false
open Go.ChangeShapes Go.WideShapes Go.ChangeAt Go.RowKit Go.PlainAid
attribute [local go_sem ↓] Go.wp_at_zero Go.wp_at_succ
set_option maxHeartbeats 1000000 in
theorem name8_ (pr : Int) (w : World) :
    Calls Tryd.prog 20 #[.int .u8 pr] w fun e w' => e = .returned (.string (tword pr)) ∧ w = w' := by
  rcases tword_cases pr with ⟨h, e⟩ | ⟨h, e⟩ | ⟨h, e⟩ | ⟨h1, h2, h3, e⟩
  case inr.inr.inr =>
    have HE := Lib.hid e
    have k1 : (pr == 1) = false := by simpa using h1
    have k2 : (pr == 6) = false := by simpa using h2
    have k3 : (pr == 17) = false := by simpa using h3
    clear e h1 h2 h3
    go_enter Tryd.func20, Tryd.ntmps20
    go_wp2
    go_ret
    rw [HE.out]
    exact ⟨rfl, rfl⟩
  all_goals
    have HE := Lib.hid e
    clear e
    subst h
    go_enter Tryd.func20, Tryd.ntmps20
    go_wp2
    go_ret
    rw [HE.out]
    exact ⟨rfl, rfl⟩
/-- The protocol of a word; 0: none. -/
def nmN (l : List UInt8) : Nat := (tprot l).getD 0
theorem nm_hit {l : List UInt8} {p : Nat} (hp : p = 1 ∨ p = 6 ∨ p = 17) (h : twL p = l) : nmN l = p := by
  unfold nmN
  rw [(tprot_iff l p).2 ⟨hp, h.symm⟩]
  rfl
theorem nm_no {l : List UInt8} (h1 : ¬ twL 1 = l) (h6 : ¬ twL 6 = l) (h17 : ¬ twL 17 = l) : nmN l = 0 := by
  unfold nmN
  cases e : tprot l with
  | none => rfl
  | some p =>
    exfalso
    obtain ⟨h, e2⟩ := (tprot_iff l p).1 e
    rcases h with rfl | rfl | rfl
    · exact h1 e2.symm
    · exact h6 e2.symm
    · exact h17 e2.symm
set_option maxHeartbeats 4000000 in
set_option maxRecDepth 100000 in
theorem named8_ (l : List UInt8) (w : World) :
    Calls Tryd.prog 24 #[.string (str l)] w fun e w' => e = .returned (.int .u8 (nmN l : Nat)) ∧ Below w.heap.size w w' := by
  have cw1 := fun u => name8_ 1 u
  have cw2 := fun u => name8_ 6 u
  have cw3 := fun u => name8_ 17 u
  rw [show tword 1 = str (twL 1) from rfl] at cw1
  rw [show tword 6 = str (twL 6) from rfl] at cw2
  rw [show tword 17 = str (twL 17) from rfl] at cw3
  have ix0 : ∀ u : World, (Instr.index 90 (.agg #[.int .u8 1, .int .u8 6, .int .u8 17]) (.int .i64 0)).run Tryd.prog u = .ok (.int .u8 1) u := fun u => by simp [Instr.index, run_underlying Tryd.underlying90, asIntOf, go_sem]
  have ix1 : ∀ u : World, (Instr.index 90 (.agg #[.int .u8 1, .int .u8 6, .int .u8 17]) (.int .i64 1)).run Tryd.prog u = .ok (.int .u8 6) u := fun u => by simp [Instr.index, run_underlying Tryd.underlying90, asIntOf, go_sem]
  have ix2 : ∀ u : World, (Instr.index 90 (.agg #[.int .u8 1, .int .u8 6, .int .u8 17]) (.int .i64 2)).run Tryd.prog u = .ok (.int .u8 17) u := fun u => by simp [Instr.index, run_underlying Tryd.underlying90, asIntOf, go_sem]
  go_enter Tryd.func24, Tryd.ntmps24
  go_wp2_with fail
  go_loop [6] (fun si => si = .int .i64 0 ∨ (si = .int .i64 1 ∧ ¬ twL 1 = l) ∨ (si = .int .i64 2 ∧ ¬ twL 1 = l ∧ ¬ twL 6 = l) ∨ (si = .int .i64 3 ∧ ¬ twL 1 = l ∧ ¬ twL 6 = l ∧ ¬ twL 17 = l)) (fun si => 3 - (intOf si).toNat)
  case atStart => exact .inl rfl
  case round =>
    rcases hrel with rfl | ⟨rfl, k1⟩ | ⟨rfl, k1, k2⟩ | ⟨rfl, k1, k2, k3⟩
    · by_cases he : twL 1 = l
      · have HV := Lib.hid (nm_hit (.inl rfl) he)
        have e1 : ((str l).toList == (str (twL 1)).toList) = true := by rw [he]; simp
        clear he
        go_wp2_with fail
        refine (cw1 _).mono ?_; rintro e w1 ⟨rfl, rfl⟩
        go_wp2
        go_ret
        rw [HV.out]
        exact ⟨rfl, Below.refl _ _⟩
      · have kk := Lib.hid he
        have e1 : ((str l).toList == (str (twL 1)).toList) = false := by rw [str_toList, str_toList]; simpa using fun h => he h.symm
        clear he
        go_wp2_with fail
        refine (cw1 _).mono ?_; rintro e w1 ⟨rfl, rfl⟩
        go_wp2_with fail
        go_round
        case rel => exact .inr (.inl ⟨rfl, kk.out⟩)
        case measure => simp [intOf]
    · have k1 := Lib.hid k1
      by_cases he : twL 6 = l
      · have HV := Lib.hid (nm_hit (.inr (.inl rfl)) he)
        have e1 : ((str l).toList == (str (twL 6)).toList) = true := by rw [he]; simp
        clear he
        go_wp2_with fail
        refine (cw2 _).mono ?_; rintro e w1 ⟨rfl, rfl⟩
        go_wp2
        go_ret
        rw [HV.out]
        exact ⟨rfl, Below.refl _ _⟩
      · have kk := Lib.hid he
        have e1 : ((str l).toList == (str (twL 6)).toList) = false := by rw [str_toList, str_toList]; simpa using fun h => he h.symm
        clear he
        go_wp2_with fail
        refine (cw2 _).mono ?_; rintro e w1 ⟨rfl, rfl⟩
        go_wp2_with fail
        go_round
        case rel => exact .inr (.inr (.inl ⟨rfl, k1.out, kk.out⟩))
        case measure => simp [intOf]
    · have k1 := Lib.hid k1
      have k2 := Lib.hid k2
      by_cases he : twL 17 = l
      · have HV := Lib.hid (nm_hit (.inr (.inr rfl)) he)
        have e1 : ((str l).toList == (str (twL 17)).toList) = true := by rw [he]; simp
        clear he
        go_wp2_with fail
        refine (cw3 _).mono ?_; rintro e w1 ⟨rfl, rfl⟩
        go_wp2
        go_ret
        rw [HV.out]
        exact ⟨rfl, Below.refl _ _⟩
      · have kk := Lib.hid he
        have e1 : ((str l).toList == (str (twL 17)).toList) = false := by rw [str_toList, str_toList]; simpa using fun h => he h.symm
        clear he
        go_wp2_with fail
        refine (cw3 _).mono ?_; rintro e w1 ⟨rfl, rfl⟩
        go_wp2_with fail
        go_round
        case rel => exact .inr (.inr (.inr ⟨rfl, k1.out, k2.out, kk.out⟩))
        case measure => simp [intOf]
    · have HV := Lib.hid (nm_no k1 k2 k3)
      clear k1 k2 k3
      go_wp2
      go_ret
      rw [HV.out]
      exact ⟨rfl, Below.refl _ _⟩
set_option maxHeartbeats 4000000 in
set_option maxRecDepth 100000 in
theorem back8_ (p a m b n : Int) (w : World) :
    Calls Tryd.prog 9 #[.agg #[.int .u8 p, .int .u32 a, .int .u16 m, .int .u32 b, .int .u16 n]] w fun e w' => e = .returned (.agg #[.int .u8 p, .int .u32 b, .int .u16 n, .int .u32 a, .int .u16 m]) ∧ Below w.heap.size w w' := by
  go_enter Tryd.func9, Tryd.ntmps9
  go_wp2
  refine bodyPost_ret (v := .agg #[.int .u8 p, .int .u32 b, .int .u16 n, .int .u32 a, .int .u16 m]) (by simp [results, Tryd.results9, go_sem]) rfl ?_
  refine ⟨rfl, ?_⟩
  repeat (first | exact Below.refl _ _ | (refine Below.setCell (p := ⟨_, _, none⟩) ?_ (by simp) _) | (refine Below.alloc ?_ (by simp) _))
set_option maxHeartbeats 4000000 in
set_option maxRecDepth 100000 in
theorem may8_ (p a m b n : Int) (w : World) :
    Calls Tryd.prog 8 #[.agg #[.int .u8 p, .int .u32 a, .int .u16 m, .int .u32 b, .int .u16 n]] w fun e w' => e = .returned (.bool (tmay p m n)) ∧ Below w.heap.size w w' := by
  have B0 : Below w.heap.size w (w.alloc (.cells #[.int .u8 p, .int .u32 a, .int .u16 m, .int .u32 b, .int .u16 n] 29)) := (Below.refl _ _).alloc (Nat.le_refl _) _
  have cw := fun u => name8_ p u
  have key : ∃ x y : Bool, (m != 0) = !x ∧ (n != 0) = !y ∧ decide (m = 0) = x ∧ decide (n = 0) = y := ⟨decide (m = 0), decide (n = 0), by simp [bne, BEq.beq], by simp [bne, BEq.beq], rfl, rfl⟩
  obtain ⟨x, y, k1, k2, l1, l2⟩ := key
  rcases tword_cases p with ⟨h, e⟩ | ⟨h, e⟩ | ⟨h, e⟩ | ⟨h1, h2, h3, e⟩
  case inr.inr.inr =>
    have HE : Hid (tmay p m n = false) := by show _ = _; unfold tmay; simp [h1, h2, h3]
    rw [e] at cw
    clear e h1 h2 h3 l1 l2
    cases x <;> cases y
    all_goals
      simp only [Bool.not_true, Bool.not_false] at k1 k2
      go_enter Tryd.func8, Tryd.ntmps8
      go_wp2_with fail
      refine (cw _).mono ?_; rintro e w1 ⟨rfl, rfl⟩
      go_wp2
      go_ret
      rw [HE.out]
      exact ⟨rfl, B0⟩
  case inl =>
    have HE : Hid (tmay p m n = (x || y)) := by show _ = _; unfold tmay; rw [l1, l2]; simp [h]
    rw [e] at cw
    clear e l1 l2
    subst h
    cases x <;> cases y
    all_goals
      simp only [Bool.not_true, Bool.not_false] at k1 k2
      go_enter Tryd.func8, Tryd.ntmps8
      go_wp2_with fail
      refine (cw _).mono ?_; rintro e w1 ⟨rfl, rfl⟩
      go_wp2
      go_ret
      rw [HE.out]
      exact ⟨rfl, B0⟩
  all_goals
    have HE : Hid (tmay p m n = true) := by show _ = _; unfold tmay; simp [h]
    rw [e] at cw
    clear e l1 l2
    subst h
    cases x <;> cases y
    all_goals
      simp only [Bool.not_true, Bool.not_false] at k1 k2
      go_enter Tryd.func8, Tryd.ntmps8
      go_wp2_with fail
      refine (cw _).mono ?_; rintro e w1 ⟨rfl, rfl⟩
      go_wp2
      go_ret
      rw [HE.out]
      exact ⟨rfl, B0⟩
set_option maxHeartbeats 2000000 in
set_option maxRecDepth 100000 in
theorem less8_ (p q : Int) (a m b n c k d l : Nat) (w : World) (p0 : 0 ≤ p) (q0 : 0 ≤ q) (ha : a < 4294967296) (hm : m ≤ 65535) (hb : b < 4294967296) (hn : n ≤ 65535) (hc : c < 4294967296) (hk : k ≤ 65535) (hd : d < 4294967296) (hl : l ≤ 65535) :
    Calls Tryd.prog 10 #[.agg #[.int .u8 p, .int .u32 (a : Int), .int .u16 (m : Int), .int .u32 (b : Int), .int .u16 (n : Int)], .agg #[.int .u8 q, .int .u32 (c : Int), .int .u16 (k : Int), .int .u32 (d : Int), .int .u16 (l : Int)]] w fun e w' => e = .returned (.bool (tless p q a m b n c k d l)) ∧ Below w.heap.size w w' := by
  have B0 : Below w.heap.size w ((w.alloc (.cells #[.int .u8 p, .int .u32 (a : Int), .int .u16 (m : Int), .int .u32 (b : Int), .int .u16 (n : Int)] 29)).alloc (.cells #[.int .u8 q, .int .u32 (c : Int), .int .u16 (k : Int), .int .u32 (d : Int), .int .u16 (l : Int)] 29)) := ((Below.refl _ _).alloc (Nat.le_refl _) _).alloc (by simp) _
  by_cases h : p = q
  rotate_left
  · have e1 : (p != q) = true := by simpa using h
    have e2 : (p == q) = false := by simpa using h
    have HE : Hid (tless p q a m b n c k d l = decide (p < q)) := by show _ = _; unfold tless; rw [if_neg h]
    clear h
    go_enter Tryd.func10, Tryd.ntmps10
    go_wp2
    go_ret
    rw [HE.out]
    exact ⟨rfl, B0⟩
  subst h
  by_cases h2 : a = c ∧ m = k
  · obtain ⟨rfl, rfl⟩ := h2
    have HE : Hid (tless p p a m b n a m d l = lessV b n d l) := by show _ = _; unfold tless; rw [if_pos rfl, if_pos ⟨rfl, rfl⟩]
    have cl := fun u => less_ b n d l u hb hd hn hl
    generalize lessV b n d l = v at *
    go_enter Tryd.func10, Tryd.ntmps10
    go_wp2_with fail
    refine (cl _).mono ?_; rintro e w1 ⟨rfl, x1⟩
    have B1 := B0.trans (x1.mono B0.size)
    go_wp2
    go_ret
    rw [HE.out]
    exact ⟨rfl, B1⟩
  have HE : Hid (tless p p a m b n c k d l = lessV a m c k) := by show _ = _; unfold tless; rw [if_pos rfl, if_neg h2]
  have cl := fun u => less_ a m c k u ha hc hm hk
  generalize lessV a m c k = v at *
  by_cases h3 : a = c
  · obtain rfl := h3
    have e1 : ((m : Int) == (k : Int)) = false := by simp; omega
    have e2 : (m == k) = false := by simp; omega
    clear h2
    go_enter Tryd.func10, Tryd.ntmps10
    go_wp2_with fail
    refine (cl _).mono ?_; rintro e w1 ⟨rfl, x1⟩
    have B1 := B0.trans (x1.mono B0.size)
    go_wp2
    go_ret
    rw [HE.out]
    exact ⟨rfl, B1⟩
  have e1 : ((a : Int) == (c : Int)) = false := by simp; omega
  have e2 : (a == c) = false := by simp; omega
  clear h2 h3
  go_enter Tryd.func10, Tryd.ntmps10
  go_wp2_with fail
  refine (cl _).mono ?_; rintro e w1 ⟨rfl, x1⟩
  have B1 := B0.trans (x1.mono B0.size)
  go_wp2
  go_ret
  rw [HE.out]
  exact ⟨rfl, B1⟩
end Go.Proofs.YtidkgnanfhdhdaaDoor

namespace Go.Proofs.YtidkgnanfhdhdaaDoor
set_option linter.unusedVariables false
set_option linter.unusedSimpArgs false
open Go.ChangeShapes Go.WideShapes Go.ChangeAt Go.RowKit Go.PlainAid
attribute [local go_sem ↓] Go.wp_at_zero Go.wp_at_succ
set_option maxHeartbeats 4000000 in
set_option maxRecDepth 100000 in
theorem text8_ (p a m b n : Nat) (w : World) (ha : a < 4294967296) (hm : m ≤ 65535) (hb : b < 4294967296) (hn : n ≤ 65535) (ht : Tab w) :
    Calls Tryd.prog 12 #[.agg #[.int .u8 (p : Int), .int .u32 (a : Int), .int .u16 (m : Int), .int .u32 (b : Int), .int .u16 (n : Int)]] w fun e w' => e = .returned (.string (str (ttextL p a m b n))) ∧ Below w.heap.size w w' := by
  have cm := fun u => may8_ (p : Int) a m b n u
  have cw := fun u => name8_ (p : Int) u
  have c1 := fun u hu => pointText_ a m u ha hm hu
  have c2 := fun u hu => pointText_ b n u hb hn hu
  rw [tword_str] at cw
  by_cases hk : tmay (p : Int) m n = true
  rotate_left
  · have hk2 : tmay (p : Int) m n = false := by simpa using hk
    have HV : Hid (str (ttextL p a m b n) = ⟨#[]⟩) := by show _ = _; unfold ttextL; rw [if_neg hk]; rfl
    rw [hk2] at cm
    clear hk hk2 cw c1 c2
    go_enter Tryd.func12, Tryd.ntmps12
    have B1 := Below.refl w.heap.size w
    go_wp2_with fail
    have T_2 := Box5.make w (.int .u8 (p : Int)) (.int .u32 (a : Int)) (.int .u16 (m : Int)) (.int .u32 (b : Int)) (.int .u16 (n : Int)) 29
    have B3 := B1.alloc B1.size (.cells #[.int .u8 (p : Int), .int .u32 (a : Int), .int .u16 (m : Int), .int .u32 (b : Int), .int .u16 (n : Int)] 29)
    clear B1
    refine (cm _).mono ?_; rintro e w1 ⟨rfl, x1⟩
    have T_4 := T_2.on x1
    have B5 := B3.trans (x1.mono B3.size)
    clear T_2 B3 x1
    clear cm
    go_wp2
    go_ret
    rw [HV.out]
    exact ⟨rfl, B5⟩
  have HV : Hid (str (ttextL p a m b n) = str (twL p) ++ ⟨#[32]⟩ ++ str (pointL a m) ++ ⟨#[32]⟩ ++ str (pointL b n)) := by
    show _ = _
    unfold ttextL
    rw [if_pos hk, show (⟨#[32]⟩ : ByteArray) = str [32] from rfl, str_app, str_app, str_app, str_app]
    simp
  rw [hk] at cm
  have z1 : (str (twL p)).size ≤ 4 := by
    rw [str_size]
    unfold twL
    split
    · decide
    · split
      · decide
      · split <;> decide
  have z2 : (str (pointL a m)).size ≤ 100000 := by
    rw [str_size]
    have h1 := textL_len a ha
    have h2 := dec_len m
    simp [pointL]; omega
  have z3 : (str (pointL b n)).size ≤ 100000 := by
    rw [str_size]
    have h1 := textL_len b hb
    have h2 := dec_len n
    simp [pointL]; omega
  generalize str (twL p) = S1 at *
  generalize str (pointL a m) = S2 at *
  generalize str (pointL b n) = S3 at *
  have q1 : S1.size + 1 ≤ 9223372036854775807 := by omega
  have q2 : S1.size + 1 + S2.size ≤ 9223372036854775807 := by omega
  have q3 : S1.size + 1 + S2.size + 1 ≤ 9223372036854775807 := by omega
  have q4 : S1.size + 1 + S2.size + 1 + S3.size ≤ 9223372036854775807 := by omega
  clear hk z1 z2 z3
  go_enter Tryd.func12, Tryd.ntmps12
  have B1 := Below.refl w.heap.size w
  go_wp2_with fail
  have T_2 := Box5.make w (.int .u8 (p : Int)) (.int .u32 (a : Int)) (.int .u16 (m : Int)) (.int .u32 (b : Int)) (.int .u16 (n : Int)) 29
  have B3 := B1.alloc B1.size (.cells #[.int .u8 (p : Int), .int .u32 (a : Int), .int .u16 (m : Int), .int .u32 (b : Int), .int .u16 (n : Int)] 29)
  clear B1
  refine (cm _).mono ?_; rintro e w1 ⟨rfl, x1⟩
  have T_4 := T_2.on x1
  have B5 := B3.trans (x1.mono B3.size)
  clear T_2 B3 x1
  clear cm
  go_wp2_with fail
  have HT := ht.on B5
  obtain ⟨zt, gt0, gt1, gt2, gt3, gt4⟩ := id T_4
  have Ft0 : ∀ x : Later w1.heap.size w1, x.u.cell? ⟨w.heap.size, 0, none⟩ = some (.int .u8 (p : Int)) := fun x => x.block zt gt0
  have Ft1 : ∀ x : Later w1.heap.size w1, x.u.cell? ⟨w.heap.size, 1, none⟩ = some (.int .u32 (a : Int)) := fun x => x.block zt gt1
  have Ft2 : ∀ x : Later w1.heap.size w1, x.u.cell? ⟨w.heap.size, 2, none⟩ = some (.int .u16 (m : Int)) := fun x => x.block zt gt2
  have Ft3 : ∀ x : Later w1.heap.size w1, x.u.cell? ⟨w.heap.size, 3, none⟩ = some (.int .u32 (b : Int)) := fun x => x.block zt gt3
  have Ft4 : ∀ x : Later w1.heap.size w1, x.u.cell? ⟨w.heap.size, 4, none⟩ = some (.int .u16 (n : Int)) := fun x => x.block zt gt4
  clear gt0 gt1 gt2 gt3 gt4
  refine region_later (B := w1.heap.size) (by kernel_rfl) (by kernel_rfl) ?_
  repeat (go_big_quiet_step (first
    | (go_at_call 20; exact later_same _ (cw _))
    | (go_at_call_of 25 (a : Int); exact later_of _ (Nat.le_refl _) (c1 _ (HT.on (Later.h _))))
    | (go_at_call_of 25 (b : Int); exact later_of _ (Nat.le_refl _) (c2 _ (HT.on (Later.h _))))))
  refine later_end fun w2 x2 => ?_
  have T_6 := T_4.on x2
  have B7 := B5.trans (x2.mono B5.size)
  clear Ft0 Ft1 Ft2 Ft3 Ft4 zt T_4 B5 x2
  go_wp2
  go_ret
  rw [HV.out]
  exact ⟨rfl, B7⟩
end Go.Proofs.YtidkgnanfhdhdaaDoor

namespace Go.Proofs.YtidkgnanfhdhdaaDoor
set_option linter.unusedVariables false
set_option linter.unusedSimpArgs false
open Go.ChangeShapes Go.WideShapes Go.ChangeAt Go.RowKit Go.PlainAid
attribute [local go_sem ↓] Go.wp_at_zero Go.wp_at_succ
/-- A box of 9 cells that is written whole: its cells, and its marks. -/
theorem box9f_ {W0 W : World} {b n : Nat} {v0 v1 v2 v3 v4 v5 v6 v7 v8 : Value} {M : World → Prop} (h : ∀ j, j < 9 → (W.cell? ⟨b, j, none⟩).isSome = true) (hb : Below n W0 W) (hn : n ≤ b)
    (k : ∀ X : World, X.cell? ⟨b, 0, none⟩ = some v0 → X.cell? ⟨b, 1, none⟩ = some v1 → X.cell? ⟨b, 2, none⟩ = some v2 → X.cell? ⟨b, 3, none⟩ = some v3 → X.cell? ⟨b, 4, none⟩ = some v4 → X.cell? ⟨b, 5, none⟩ = some v5 → X.cell? ⟨b, 6, none⟩ = some v6 → X.cell? ⟨b, 7, none⟩ = some v7 → X.cell? ⟨b, 8, none⟩ = some v8 → Below n W0 X → (∀ a : Addr, ¬ b = a.block → X.cell? a = W.cell? a) → X.heap.size = W.heap.size → (∀ a : Addr, X.frozen? a = W.frozen? a) → M X) :
    M (((((((((W.setCell ⟨b, 0, none⟩ v0).setCell ⟨b, 1, none⟩ v1).setCell ⟨b, 2, none⟩ v2).setCell ⟨b, 3, none⟩ v3).setCell ⟨b, 4, none⟩ v4).setCell ⟨b, 5, none⟩ v5).setCell ⟨b, 6, none⟩ v6).setCell ⟨b, 7, none⟩ v7).setCell ⟨b, 8, none⟩ v8) := by
  have f : ∀ a : Addr, (((((((((W.setCell ⟨b, 0, none⟩ v0).setCell ⟨b, 1, none⟩ v1).setCell ⟨b, 2, none⟩ v2).setCell ⟨b, 3, none⟩ v3).setCell ⟨b, 4, none⟩ v4).setCell ⟨b, 5, none⟩ v5).setCell ⟨b, 6, none⟩ v6).setCell ⟨b, 7, none⟩ v7).setCell ⟨b, 8, none⟩ v8).frozen? a = W.frozen? a := by intro a; simp
  have key := box9_ (W0 := W0) (W := W) (b := b) (n := n) (v0 := v0) (v1 := v1) (v2 := v2) (v3 := v3) (v4 := v4) (v5 := v5) (v6 := v6) (v7 := v7) (v8 := v8) (M := fun X => (∀ a : Addr, X.frozen? a = W.frozen? a) → M X) h hb hn k
  exact key f
set_option maxHeartbeats 4000000 in
set_option maxRecDepth 100000 in
theorem seen8_ (h0 h1 h3 h5 h6 : Int) (h2 : Bool) (h7 L : ByteArray) (pr k m n : Int) (w : World) :
    Calls Tryd.prog 33 #[.agg #[.int .u8 h0, .int .u16 h1, .bool h2, .int .u8 h3, .int .u8 pr, .int .u32 h5, .int .u32 h6, .string h7, .string L], .int .i64 k, .int .u16 m, .int .u16 n] w fun e w' => e = .returned (.agg #[.int .u8 pr, .int .u32 h5, .int .u16 m, .int .u32 h6, .int .u16 n, .int .i64 k, .int .u8 0, .bool false, .int .u8 h3]) ∧ Below w.heap.size w w' := by
  go_enter Tryd.func33, Tryd.ntmps33
  have B1 := Below.refl w.heap.size w
  go_upto_region 1 with fail
  have P_2 := Box9.make w (.int .u8 h0) (.int .u16 h1) (.bool h2) (.int .u8 h3) (.int .u8 pr) (.int .u32 h5) (.int .u32 h6) (.string h7) (.string L) 52
  have B3 := B1.alloc B1.size (.cells #[.int .u8 h0, .int .u16 h1, .bool h2, .int .u8 h3, .int .u8 pr, .int .u32 h5, .int .u32 h6, .string h7, .string L] 52)
  clear B1
  have P_4 := P_2.past (o := (.cells #[.int .u8 0, .int .u32 0, .int .u16 0, .int .u32 0, .int .u16 0, .int .i64 0, .int .u8 0, .bool false, .int .u8 0] 31))
  have hs_ : (w.alloc (.cells #[.int .u8 h0, .int .u16 h1, .bool h2, .int .u8 h3, .int .u8 pr, .int .u32 h5, .int .u32 h6, .string h7, .string L] 52)).heap.size = w.heap.size + 1 := by simp
  have R_5 := Box9.make (w.alloc (.cells #[.int .u8 h0, .int .u16 h1, .bool h2, .int .u8 h3, .int .u8 pr, .int .u32 h5, .int .u32 h6, .string h7, .string L] 52)) (.int .u8 0) (.int .u32 0) (.int .u16 0) (.int .u32 0) (.int .u16 0) (.int .i64 0) (.int .u8 0) (.bool false) (.int .u8 0) 31
  rw [hs_] at R_5
  clear hs_
  have B6 := B3.alloc B3.size (.cells #[.int .u8 0, .int .u32 0, .int .u16 0, .int .u32 0, .int .u16 0, .int .i64 0, .int .u8 0, .bool false, .int .u8 0] 31)
  clear P_2 B3
  have fzR_7 : ∀ i, ((w.alloc (.cells #[.int .u8 h0, .int .u16 h1, .bool h2, .int .u8 h3, .int .u8 pr, .int .u32 h5, .int .u32 h6, .string h7, .string L] 52)).alloc (.cells #[.int .u8 0, .int .u32 0, .int .u16 0, .int .u32 0, .int .u16 0, .int .i64 0, .int .u8 0, .bool false, .int .u8 0] 31)).frozen? ⟨(w.heap.size + 1), i, none⟩ = false := by intro i; simp [go_sem]
  obtain ⟨u1, hu1⟩ : ∃ x, x = (w.alloc (.cells #[.int .u8 h0, .int .u16 h1, .bool h2, .int .u8 h3, .int .u8 pr, .int .u32 h5, .int .u32 h6, .string h7, .string L] 52)).alloc (.cells #[.int .u8 0, .int .u32 0, .int .u16 0, .int .u32 0, .int .u16 0, .int .i64 0, .int .u8 0, .bool false, .int .u8 0] 31) := ⟨_, rfl⟩
  rw [← hu1] at P_4 R_5 fzR_7 B6 ⊢
  clear hu1
  obtain ⟨_, p1_0, p1_1, p1_2, p1_3, p1_4, p1_5, p1_6, p1_7, p1_8⟩ := id P_4
  obtain ⟨_, r2_0, r2_1, r2_2, r2_3, r2_4, r2_5, r2_6, r2_7, r2_8⟩ := id R_5
  go_wp2
  refine box9_ (b := w.heap.size + 1) R_5.some B6 (Nat.le_succ _) fun Z y0 y1 y2 y3 y4 y5 y6 y7 y8 BZ _ _ => ?_
  refine bodyPost_ret (v := .agg #[.int .u8 pr, .int .u32 h5, .int .u16 m, .int .u32 h6, .int .u16 n, .int .i64 k, .int .u8 0, .bool false, .int .u8 h3]) (by simp [results, Tryd.results33, go_sem, y0, y1, y2, y3, y4, y5, y6, y7, y8]) rfl ?_
  exact ⟨rfl, BZ⟩
set_option maxHeartbeats 4000000 in
set_option maxRecDepth 100000 in
theorem datagram8_bad (h0 h1 h3 h5 h6 : Int) (h2 : Bool) (h7 L : ByteArray) (cm : ∀ u : World, Calls Tryd.prog 34 #[.string L] u fun e w' => e = .returned (.tuple #[.agg #[.int .u16 0, .int .u16 0, .int .u16 0, .int .u16 0], .string ⟨#[]⟩, .bool false]) ∧ Below u.heap.size u w') (w : World) :
    Calls Tryd.prog 18 #[.agg #[.int .u8 h0, .int .u16 h1, .bool h2, .int .u8 h3, .int .u8 17, .int .u32 h5, .int .u32 h6, .string h7, .string L]] w fun e w' => e = .returned (.tuple #[.agg #[.int .u8 0, .int .u32 0, .int .u16 0, .int .u32 0, .int .u16 0, .int .i64 0, .int .u8 0, .bool false, .int .u8 0], .int .i64 7]) ∧ Below w.heap.size w w' := by
  go_enter Tryd.func18, Tryd.ntmps18
  have B1 := Below.refl w.heap.size w
  go_wp2_with fail
  have P_2 := Box9.make w (.int .u8 h0) (.int .u16 h1) (.bool h2) (.int .u8 h3) (.int .u8 17) (.int .u32 h5) (.int .u32 h6) (.string h7) (.string L) 52
  have B3 := B1.alloc B1.size (.cells #[.int .u8 h0, .int .u16 h1, .bool h2, .int .u8 h3, .int .u8 17, .int .u32 h5, .int .u32 h6, .string h7, .string L] 52)
  clear B1
  have P_4 := P_2.past (o := (.cells #[.int .u8 0, .int .u32 0, .int .u16 0, .int .u32 0, .int .u16 0, .int .i64 0, .int .u8 0, .bool false, .int .u8 0] 31))
  have hs_ : (w.alloc (.cells #[.int .u8 h0, .int .u16 h1, .bool h2, .int .u8 h3, .int .u8 17, .int .u32 h5, .int .u32 h6, .string h7, .string L] 52)).heap.size = w.heap.size + 1 := by simp
  have R_5 := Box9.make (w.alloc (.cells #[.int .u8 h0, .int .u16 h1, .bool h2, .int .u8 h3, .int .u8 17, .int .u32 h5, .int .u32 h6, .string h7, .string L] 52)) (.int .u8 0) (.int .u32 0) (.int .u16 0) (.int .u32 0) (.int .u16 0) (.int .i64 0) (.int .u8 0) (.bool false) (.int .u8 0) 31
  rw [hs_] at R_5
  clear hs_
  have B6 := B3.alloc B3.size (.cells #[.int .u8 0, .int .u32 0, .int .u16 0, .int .u32 0, .int .u16 0, .int .i64 0, .int .u8 0, .bool false, .int .u8 0] 31)
  clear P_2 B3
  have fzR_7 : ∀ i, ((w.alloc (.cells #[.int .u8 h0, .int .u16 h1, .bool h2, .int .u8 h3, .int .u8 17, .int .u32 h5, .int .u32 h6, .string h7, .string L] 52)).alloc (.cells #[.int .u8 0, .int .u32 0, .int .u16 0, .int .u32 0, .int .u16 0, .int .i64 0, .int .u8 0, .bool false, .int .u8 0] 31)).frozen? ⟨(w.heap.size + 1), i, none⟩ = false := by intro i; simp [go_sem]
  obtain ⟨u1, hu1⟩ : ∃ x, x = (w.alloc (.cells #[.int .u8 h0, .int .u16 h1, .bool h2, .int .u8 h3, .int .u8 17, .int .u32 h5, .int .u32 h6, .string h7, .string L] 52)).alloc (.cells #[.int .u8 0, .int .u32 0, .int .u16 0, .int .u32 0, .int .u16 0, .int .i64 0, .int .u8 0, .bool false, .int .u8 0] 31) := ⟨_, rfl⟩
  rw [← hu1] at P_4 R_5 fzR_7 B6 ⊢
  clear hu1
  refine (cm _).mono ?_; rintro e w1 ⟨rfl, x1⟩
  have fzR_8 : ∀ i, w1.frozen? ⟨(w.heap.size + 1), i, none⟩ = false := fun i => (x1.frozen (p := ⟨_, i, none⟩) R_5.1).trans (fzR_7 i)
  clear fzR_7
  have P_9 := P_4.on x1
  have R_10 := R_5.on x1
  have B11 := B6.trans (x1.mono B6.size)
  clear P_4 R_5 B6 x1
  clear cm
  have Lt := Lib.hid (show w.heap.size + 1 < w1.heap.size from R_10.1)
  have fzR_12 : ∀ i, (w1.alloc (.cells #[.int .u16 0, .int .u16 0, .int .u16 0, .int .u16 0] 77)).frozen? ⟨(w.heap.size + 1), i, none⟩ = false := fun i => (((Below.refl w1.heap.size w1).alloc (Nat.le_refl _) (.cells #[.int .u16 0, .int .u16 0, .int .u16 0, .int .u16 0] 77)).frozen (p := ⟨_, i, none⟩) R_10.1).trans (fzR_8 i)
  clear fzR_8
  have P_13 := P_9.past (o := (.cells #[.int .u16 0, .int .u16 0, .int .u16 0, .int .u16 0] 77))
  have R_14 := R_10.past (o := (.cells #[.int .u16 0, .int .u16 0, .int .u16 0, .int .u16 0] 77))
  have G_15 := Box4.make w1 (.int .u16 0) (.int .u16 0) (.int .u16 0) (.int .u16 0) 77
  have B16 := B11.alloc B11.size (.cells #[.int .u16 0, .int .u16 0, .int .u16 0, .int .u16 0] 77)
  clear P_9 R_10 B11
  obtain ⟨_, r1_0, r1_1, r1_2, r1_3, r1_4, r1_5, r1_6, r1_7, r1_8⟩ := id R_14
  go_wp2
  refine box9_ (b := w.heap.size + 1) R_14.some B16 (Nat.le_succ _) fun Z y0 y1 y2 y3 y4 y5 y6 y7 y8 BZ _ _ => ?_
  refine bodyPost_ret (v := .tuple #[.agg #[.int .u8 0, .int .u32 0, .int .u16 0, .int .u32 0, .int .u16 0, .int .i64 0, .int .u8 0, .bool false, .int .u8 0], .int .i64 7]) (by simp [results, Tryd.results18, go_sem, y0, y1, y2, y3, y4, y5, y6, y7, y8]) rfl ?_
  exact ⟨rfl, BZ⟩
set_option maxHeartbeats 4000000 in
set_option maxRecDepth 100000 in
theorem datagram8_ok (h0 h1 h3 h5 h6 : Int) (h2 : Bool) (h7 L : ByteArray) (g0 g1 g2 g3 : Int) (Q : ByteArray) (cm : ∀ u : World, Calls Tryd.prog 34 #[.string L] u fun e w' => e = .returned (.tuple #[.agg #[.int .u16 g0, .int .u16 g1, .int .u16 g2, .int .u16 g3], .string Q, .bool true]) ∧ Below u.heap.size u w') (w : World) :
    Calls Tryd.prog 18 #[.agg #[.int .u8 h0, .int .u16 h1, .bool h2, .int .u8 h3, .int .u8 17, .int .u32 h5, .int .u32 h6, .string h7, .string L]] w fun e w' => e = .returned (.tuple #[.agg #[.int .u8 17, .int .u32 h5, .int .u16 g0, .int .u32 h6, .int .u16 g1, .int .i64 2, .int .u8 0, .bool false, .int .u8 h3], .int .i64 0]) ∧ Below w.heap.size w w' := by
  go_enter Tryd.func18, Tryd.ntmps18
  have B1 := Below.refl w.heap.size w
  go_wp2_with fail
  have P_2 := Box9.make w (.int .u8 h0) (.int .u16 h1) (.bool h2) (.int .u8 h3) (.int .u8 17) (.int .u32 h5) (.int .u32 h6) (.string h7) (.string L) 52
  have B3 := B1.alloc B1.size (.cells #[.int .u8 h0, .int .u16 h1, .bool h2, .int .u8 h3, .int .u8 17, .int .u32 h5, .int .u32 h6, .string h7, .string L] 52)
  clear B1
  have P_4 := P_2.past (o := (.cells #[.int .u8 0, .int .u32 0, .int .u16 0, .int .u32 0, .int .u16 0, .int .i64 0, .int .u8 0, .bool false, .int .u8 0] 31))
  have hs_ : (w.alloc (.cells #[.int .u8 h0, .int .u16 h1, .bool h2, .int .u8 h3, .int .u8 17, .int .u32 h5, .int .u32 h6, .string h7, .string L] 52)).heap.size = w.heap.size + 1 := by simp
  have R_5 := Box9.make (w.alloc (.cells #[.int .u8 h0, .int .u16 h1, .bool h2, .int .u8 h3, .int .u8 17, .int .u32 h5, .int .u32 h6, .string h7, .string L] 52)) (.int .u8 0) (.int .u32 0) (.int .u16 0) (.int .u32 0) (.int .u16 0) (.int .i64 0) (.int .u8 0) (.bool false) (.int .u8 0) 31
  rw [hs_] at R_5
  clear hs_
  have B6 := B3.alloc B3.size (.cells #[.int .u8 0, .int .u32 0, .int .u16 0, .int .u32 0, .int .u16 0, .int .i64 0, .int .u8 0, .bool false, .int .u8 0] 31)
  clear P_2 B3
  have fzR_7 : ∀ i, ((w.alloc (.cells #[.int .u8 h0, .int .u16 h1, .bool h2, .int .u8 h3, .int .u8 17, .int .u32 h5, .int .u32 h6, .string h7, .string L] 52)).alloc (.cells #[.int .u8 0, .int .u32 0, .int .u16 0, .int .u32 0, .int .u16 0, .int .i64 0, .int .u8 0, .bool false, .int .u8 0] 31)).frozen? ⟨(w.heap.size + 1), i, none⟩ = false := by intro i; simp [go_sem]
  obtain ⟨u1, hu1⟩ : ∃ x, x = (w.alloc (.cells #[.int .u8 h0, .int .u16 h1, .bool h2, .int .u8 h3, .int .u8 17, .int .u32 h5, .int .u32 h6, .string h7, .string L] 52)).alloc (.cells #[.int .u8 0, .int .u32 0, .int .u16 0, .int .u32 0, .int .u16 0, .int .i64 0, .int .u8 0, .bool false, .int .u8 0] 31) := ⟨_, rfl⟩
  rw [← hu1] at P_4 R_5 fzR_7 B6 ⊢
  clear hu1
  refine (cm _).mono ?_; rintro e w1 ⟨rfl, x1⟩
  have fzR_8 : ∀ i, w1.frozen? ⟨(w.heap.size + 1), i, none⟩ = false := fun i => (x1.frozen (p := ⟨_, i, none⟩) R_5.1).trans (fzR_7 i)
  clear fzR_7
  have P_9 := P_4.on x1
  have R_10 := R_5.on x1
  have B11 := B6.trans (x1.mono B6.size)
  clear P_4 R_5 B6 x1
  clear cm
  have Lt := Lib.hid (show w.heap.size + 1 < w1.heap.size from R_10.1)
  have fzR_12 : ∀ i, (w1.alloc (.cells #[.int .u16 g0, .int .u16 g1, .int .u16 g2, .int .u16 g3] 77)).frozen? ⟨(w.heap.size + 1), i, none⟩ = false := fun i => (((Below.refl w1.heap.size w1).alloc (Nat.le_refl _) (.cells #[.int .u16 g0, .int .u16 g1, .int .u16 g2, .int .u16 g3] 77)).frozen (p := ⟨_, i, none⟩) R_10.1).trans (fzR_8 i)
  clear fzR_8
  have P_13 := P_9.past (o := (.cells #[.int .u16 g0, .int .u16 g1, .int .u16 g2, .int .u16 g3] 77))
  have R_14 := R_10.past (o := (.cells #[.int .u16 g0, .int .u16 g1, .int .u16 g2, .int .u16 g3] 77))
  have G_15 := Box4.make w1 (.int .u16 g0) (.int .u16 g1) (.int .u16 g2) (.int .u16 g3) 77
  have B16 := B11.alloc B11.size (.cells #[.int .u16 g0, .int .u16 g1, .int .u16 g2, .int .u16 g3] 77)
  clear P_9 R_10 B11
  obtain ⟨_, p1_0, p1_1, p1_2, p1_3, p1_4, p1_5, p1_6, p1_7, p1_8⟩ := id P_13
  obtain ⟨_, g2_0, g2_1, g2_2, g2_3⟩ := id G_15
  go_wp2_with fail
  refine ((seen8_ h0 h1 h3 h5 h6 h2 h7 L 17 2 g0 g1 _)).mono ?_; rintro e w2 ⟨rfl, x2⟩
  have fzR_17 : ∀ i, w2.frozen? ⟨(w.heap.size + 1), i, none⟩ = false := fun i => (x2.frozen (p := ⟨_, i, none⟩) R_14.1).trans (fzR_12 i)
  clear fzR_12
  have P_18 := P_13.on x2
  have R_19 := R_14.on x2
  have G_20 := G_15.on x2
  have B21 := B16.trans (x2.mono B16.size)
  clear p1_0 p1_1 p1_2 p1_3 p1_4 p1_5 p1_6 p1_7 p1_8 g2_0 g2_1 g2_2 g2_3 P_13 R_14 G_15 B16 x2
  obtain ⟨_, r3_0, r3_1, r3_2, r3_3, r3_4, r3_5, r3_6, r3_7, r3_8⟩ := id R_19
  go_wp2
  refine box9_ (b := w.heap.size + 1) R_19.some B21 (Nat.le_succ _) fun Z y0 y1 y2 y3 y4 y5 y6 y7 y8 BZ _ _ => ?_
  refine bodyPost_ret (v := .tuple #[.agg #[.int .u8 17, .int .u32 h5, .int .u16 g0, .int .u32 h6, .int .u16 g1, .int .i64 2, .int .u8 0, .bool false, .int .u8 h3], .int .i64 0]) (by simp [results, Tryd.results18, go_sem, y0, y1, y2, y3, y4, y5, y6, y7, y8]) rfl ?_
  exact ⟨rfl, BZ⟩
set_option maxHeartbeats 4000000 in
set_option maxRecDepth 100000 in
theorem segment8_bad (h0 h1 h3 h5 h6 : Int) (h2 : Bool) (h7 L : ByteArray) (cm : ∀ u : World, Calls Tryd.prog 32 #[.string L] u fun e w' => e = .returned (.tuple #[.agg #[.int .u16 0, .int .u16 0, .int .u32 0, .int .u32 0, .int .u8 0, .int .u8 0, .int .u16 0, .int .u16 0, .int .u16 0, .string ⟨#[]⟩], .string ⟨#[]⟩, .bool false]) ∧ Below u.heap.size u w') (w : World) :
    Calls Tryd.prog 17 #[.agg #[.int .u8 h0, .int .u16 h1, .bool h2, .int .u8 h3, .int .u8 6, .int .u32 h5, .int .u32 h6, .string h7, .string L]] w fun e w' => e = .returned (.tuple #[.agg #[.int .u8 0, .int .u32 0, .int .u16 0, .int .u32 0, .int .u16 0, .int .i64 0, .int .u8 0, .bool false, .int .u8 0], .int .i64 7]) ∧ Below w.heap.size w w' := by
  go_enter Tryd.func17, Tryd.ntmps17
  have B1 := Below.refl w.heap.size w
  go_wp2_with fail
  have P_2 := Box9.make w (.int .u8 h0) (.int .u16 h1) (.bool h2) (.int .u8 h3) (.int .u8 6) (.int .u32 h5) (.int .u32 h6) (.string h7) (.string L) 52
  have B3 := B1.alloc B1.size (.cells #[.int .u8 h0, .int .u16 h1, .bool h2, .int .u8 h3, .int .u8 6, .int .u32 h5, .int .u32 h6, .string h7, .string L] 52)
  clear B1
  have P_4 := P_2.past (o := (.cells #[.int .u8 0, .int .u32 0, .int .u16 0, .int .u32 0, .int .u16 0, .int .i64 0, .int .u8 0, .bool false, .int .u8 0] 31))
  have hs_ : (w.alloc (.cells #[.int .u8 h0, .int .u16 h1, .bool h2, .int .u8 h3, .int .u8 6, .int .u32 h5, .int .u32 h6, .string h7, .string L] 52)).heap.size = w.heap.size + 1 := by simp
  have R_5 := Box9.make (w.alloc (.cells #[.int .u8 h0, .int .u16 h1, .bool h2, .int .u8 h3, .int .u8 6, .int .u32 h5, .int .u32 h6, .string h7, .string L] 52)) (.int .u8 0) (.int .u32 0) (.int .u16 0) (.int .u32 0) (.int .u16 0) (.int .i64 0) (.int .u8 0) (.bool false) (.int .u8 0) 31
  rw [hs_] at R_5
  clear hs_
  have B6 := B3.alloc B3.size (.cells #[.int .u8 0, .int .u32 0, .int .u16 0, .int .u32 0, .int .u16 0, .int .i64 0, .int .u8 0, .bool false, .int .u8 0] 31)
  clear P_2 B3
  have fzR_7 : ∀ i, ((w.alloc (.cells #[.int .u8 h0, .int .u16 h1, .bool h2, .int .u8 h3, .int .u8 6, .int .u32 h5, .int .u32 h6, .string h7, .string L] 52)).alloc (.cells #[.int .u8 0, .int .u32 0, .int .u16 0, .int .u32 0, .int .u16 0, .int .i64 0, .int .u8 0, .bool false, .int .u8 0] 31)).frozen? ⟨(w.heap.size + 1), i, none⟩ = false := by intro i; simp [go_sem]
  obtain ⟨u1, hu1⟩ : ∃ x, x = (w.alloc (.cells #[.int .u8 h0, .int .u16 h1, .bool h2, .int .u8 h3, .int .u8 6, .int .u32 h5, .int .u32 h6, .string h7, .string L] 52)).alloc (.cells #[.int .u8 0, .int .u32 0, .int .u16 0, .int .u32 0, .int .u16 0, .int .i64 0, .int .u8 0, .bool false, .int .u8 0] 31) := ⟨_, rfl⟩
  rw [← hu1] at P_4 R_5 fzR_7 B6 ⊢
  clear hu1
  refine (cm _).mono ?_; rintro e w1 ⟨rfl, x1⟩
  have fzR_8 : ∀ i, w1.frozen? ⟨(w.heap.size + 1), i, none⟩ = false := fun i => (x1.frozen (p := ⟨_, i, none⟩) R_5.1).trans (fzR_7 i)
  clear fzR_7
  have P_9 := P_4.on x1
  have R_10 := R_5.on x1
  have B11 := B6.trans (x1.mono B6.size)
  clear P_4 R_5 B6 x1
  clear cm
  have Lt := Lib.hid (show w.heap.size + 1 < w1.heap.size from R_10.1)
  have fzR_12 : ∀ i, (w1.alloc (.cells #[.int .u16 0, .int .u16 0, .int .u32 0, .int .u32 0, .int .u8 0, .int .u8 0, .int .u16 0, .int .u16 0, .int .u16 0, .string ⟨#[]⟩] 72)).frozen? ⟨(w.heap.size + 1), i, none⟩ = false := fun i => (((Below.refl w1.heap.size w1).alloc (Nat.le_refl _) (.cells #[.int .u16 0, .int .u16 0, .int .u32 0, .int .u32 0, .int .u8 0, .int .u8 0, .int .u16 0, .int .u16 0, .int .u16 0, .string ⟨#[]⟩] 72)).frozen (p := ⟨_, i, none⟩) R_10.1).trans (fzR_8 i)
  clear fzR_8
  have P_13 := P_9.past (o := (.cells #[.int .u16 0, .int .u16 0, .int .u32 0, .int .u32 0, .int .u8 0, .int .u8 0, .int .u16 0, .int .u16 0, .int .u16 0, .string ⟨#[]⟩] 72))
  have R_14 := R_10.past (o := (.cells #[.int .u16 0, .int .u16 0, .int .u32 0, .int .u32 0, .int .u8 0, .int .u8 0, .int .u16 0, .int .u16 0, .int .u16 0, .string ⟨#[]⟩] 72))
  have G_15 := Box10.make w1 (.int .u16 0) (.int .u16 0) (.int .u32 0) (.int .u32 0) (.int .u8 0) (.int .u8 0) (.int .u16 0) (.int .u16 0) (.int .u16 0) (.string ⟨#[]⟩) 72
  have B16 := B11.alloc B11.size (.cells #[.int .u16 0, .int .u16 0, .int .u32 0, .int .u32 0, .int .u8 0, .int .u8 0, .int .u16 0, .int .u16 0, .int .u16 0, .string ⟨#[]⟩] 72)
  clear P_9 R_10 B11
  obtain ⟨_, r1_0, r1_1, r1_2, r1_3, r1_4, r1_5, r1_6, r1_7, r1_8⟩ := id R_14
  go_wp2
  refine box9_ (b := w.heap.size + 1) R_14.some B16 (Nat.le_succ _) fun Z y0 y1 y2 y3 y4 y5 y6 y7 y8 BZ _ _ => ?_
  refine bodyPost_ret (v := .tuple #[.agg #[.int .u8 0, .int .u32 0, .int .u16 0, .int .u32 0, .int .u16 0, .int .i64 0, .int .u8 0, .bool false, .int .u8 0], .int .i64 7]) (by simp [results, Tryd.results17, go_sem, y0, y1, y2, y3, y4, y5, y6, y7, y8]) rfl ?_
  exact ⟨rfl, BZ⟩
set_option maxHeartbeats 4000000 in
set_option maxRecDepth 100000 in
theorem segment8_first (h0 h1 h3 h5 h6 : Int) (h2 : Bool) (h7 L : ByteArray) (g0 g1 g2 g3 g4 g5 g6 g7 g8 : Int) (g9 Q : ByteArray) (cm : ∀ u : World, Calls Tryd.prog 32 #[.string L] u fun e w' => e = .returned (.tuple #[.agg #[.int .u16 g0, .int .u16 g1, .int .u32 g2, .int .u32 g3, .int .u8 g4, .int .u8 g5, .int .u16 g6, .int .u16 g7, .int .u16 g8, .string g9], .string Q, .bool true]) ∧ Below u.heap.size u w') (e2 : (bits .and .u8 g5 23 == 2) = true) (w : World) :
    Calls Tryd.prog 17 #[.agg #[.int .u8 h0, .int .u16 h1, .bool h2, .int .u8 h3, .int .u8 6, .int .u32 h5, .int .u32 h6, .string h7, .string L]] w fun e w' => e = .returned (.tuple #[.agg #[.int .u8 6, .int .u32 h5, .int .u16 g0, .int .u32 h6, .int .u16 g1, .int .i64 1, .int .u8 g5, .bool false, .int .u8 h3], .int .i64 0]) ∧ Below w.heap.size w w' := by
  go_enter Tryd.func17, Tryd.ntmps17
  have B1 := Below.refl w.heap.size w
  go_wp2_with fail
  have P_2 := Box9.make w (.int .u8 h0) (.int .u16 h1) (.bool h2) (.int .u8 h3) (.int .u8 6) (.int .u32 h5) (.int .u32 h6) (.string h7) (.string L) 52
  have B3 := B1.alloc B1.size (.cells #[.int .u8 h0, .int .u16 h1, .bool h2, .int .u8 h3, .int .u8 6, .int .u32 h5, .int .u32 h6, .string h7, .string L] 52)
  clear B1
  have P_4 := P_2.past (o := (.cells #[.int .u8 0, .int .u32 0, .int .u16 0, .int .u32 0, .int .u16 0, .int .i64 0, .int .u8 0, .bool false, .int .u8 0] 31))
  have hs_ : (w.alloc (.cells #[.int .u8 h0, .int .u16 h1, .bool h2, .int .u8 h3, .int .u8 6, .int .u32 h5, .int .u32 h6, .string h7, .string L] 52)).heap.size = w.heap.size + 1 := by simp
  have R_5 := Box9.make (w.alloc (.cells #[.int .u8 h0, .int .u16 h1, .bool h2, .int .u8 h3, .int .u8 6, .int .u32 h5, .int .u32 h6, .string h7, .string L] 52)) (.int .u8 0) (.int .u32 0) (.int .u16 0) (.int .u32 0) (.int .u16 0) (.int .i64 0) (.int .u8 0) (.bool false) (.int .u8 0) 31
  rw [hs_] at R_5
  clear hs_
  have B6 := B3.alloc B3.size (.cells #[.int .u8 0, .int .u32 0, .int .u16 0, .int .u32 0, .int .u16 0, .int .i64 0, .int .u8 0, .bool false, .int .u8 0] 31)
  clear P_2 B3
  have fzR_7 : ∀ i, ((w.alloc (.cells #[.int .u8 h0, .int .u16 h1, .bool h2, .int .u8 h3, .int .u8 6, .int .u32 h5, .int .u32 h6, .string h7, .string L] 52)).alloc (.cells #[.int .u8 0, .int .u32 0, .int .u16 0, .int .u32 0, .int .u16 0, .int .i64 0, .int .u8 0, .bool false, .int .u8 0] 31)).frozen? ⟨(w.heap.size + 1), i, none⟩ = false := by intro i; simp [go_sem]
  obtain ⟨u1, hu1⟩ : ∃ x, x = (w.alloc (.cells #[.int .u8 h0, .int .u16 h1, .bool h2, .int .u8 h3, .int .u8 6, .int .u32 h5, .int .u32 h6, .string h7, .string L] 52)).alloc (.cells #[.int .u8 0, .int .u32 0, .int .u16 0, .int .u32 0, .int .u16 0, .int .i64 0, .int .u8 0, .bool false, .int .u8 0] 31) := ⟨_, rfl⟩
  rw [← hu1] at P_4 R_5 fzR_7 B6 ⊢
  clear hu1
  refine (cm _).mono ?_; rintro e w1 ⟨rfl, x1⟩
  have fzR_8 : ∀ i, w1.frozen? ⟨(w.heap.size + 1), i, none⟩ = false := fun i => (x1.frozen (p := ⟨_, i, none⟩) R_5.1).trans (fzR_7 i)
  clear fzR_7
  have P_9 := P_4.on x1
  have R_10 := R_5.on x1
  have B11 := B6.trans (x1.mono B6.size)
  clear P_4 R_5 B6 x1
  clear cm
  have Lt := Lib.hid (show w.heap.size + 1 < w1.heap.size from R_10.1)
  have fzR_12 : ∀ i, (w1.alloc (.cells #[.int .u16 g0, .int .u16 g1, .int .u32 g2, .int .u32 g3, .int .u8 g4, .int .u8 g5, .int .u16 g6, .int .u16 g7, .int .u16 g8, .string g9] 72)).frozen? ⟨(w.heap.size + 1), i, none⟩ = false := fun i => (((Below.refl w1.heap.size w1).alloc (Nat.le_refl _) (.cells #[.int .u16 g0, .int .u16 g1, .int .u32 g2, .int .u32 g3, .int .u8 g4, .int .u8 g5, .int .u16 g6, .int .u16 g7, .int .u16 g8, .string g9] 72)).frozen (p := ⟨_, i, none⟩) R_10.1).trans (fzR_8 i)
  clear fzR_8
  have P_13 := P_9.past (o := (.cells #[.int .u16 g0, .int .u16 g1, .int .u32 g2, .int .u32 g3, .int .u8 g4, .int .u8 g5, .int .u16 g6, .int .u16 g7, .int .u16 g8, .string g9] 72))
  have R_14 := R_10.past (o := (.cells #[.int .u16 g0, .int .u16 g1, .int .u32 g2, .int .u32 g3, .int .u8 g4, .int .u8 g5, .int .u16 g6, .int .u16 g7, .int .u16 g8, .string g9] 72))
  have G_15 := Box10.make w1 (.int .u16 g0) (.int .u16 g1) (.int .u32 g2) (.int .u32 g3) (.int .u8 g4) (.int .u8 g5) (.int .u16 g6) (.int .u16 g7) (.int .u16 g8) (.string g9) 72
  have B16 := B11.alloc B11.size (.cells #[.int .u16 g0, .int .u16 g1, .int .u32 g2, .int .u32 g3, .int .u8 g4, .int .u8 g5, .int .u16 g6, .int .u16 g7, .int .u16 g8, .string g9] 72)
  clear P_9 R_10 B11
  have ne1_ : ¬ w.heap.size + 1 = w1.heap.size := by have := Lt.out; omega
  have ne2_ : ¬ w1.heap.size = w.heap.size + 1 := by have := Lt.out; omega
  obtain ⟨_, p1_0, p1_1, p1_2, p1_3, p1_4, p1_5, p1_6, p1_7, p1_8⟩ := id P_13
  obtain ⟨_, g2_0, g2_1, g2_2, g2_3, g2_4, g2_5, g2_6, g2_7, g2_8, g2_9⟩ := id G_15
  go_wp2_with fail
  refine ((seen8_ h0 h1 h3 h5 h6 h2 h7 L 6 2 g0 g1 _)).mono ?_; rintro e w2 ⟨rfl, x2⟩
  have fzR_17 : ∀ i, w2.frozen? ⟨(w.heap.size + 1), i, none⟩ = false := fun i => (x2.frozen (p := ⟨_, i, none⟩) R_14.1).trans (fzR_12 i)
  clear fzR_12
  have P_18 := P_13.on x2
  have R_19 := R_14.on x2
  have G_20 := G_15.on x2
  have B21 := B16.trans (x2.mono B16.size)
  clear p1_0 p1_1 p1_2 p1_3 p1_4 p1_5 p1_6 p1_7 p1_8 g2_0 g2_1 g2_2 g2_3 g2_4 g2_5 g2_6 g2_7 g2_8 g2_9 P_13 R_14 G_15 B16 x2
  clear P_18
  obtain ⟨_, r3_0, r3_1, r3_2, r3_3, r3_4, r3_5, r3_6, r3_7, r3_8⟩ := id R_19
  go_upto_region 5 with fail
  refine box9f_ (b := w.heap.size + 1) R_19.some B21 (Nat.le_succ _) fun z3 y3_0 y3_1 y3_2 y3_3 y3_4 y3_5 y3_6 y3_7 y3_8 B22 far sz fzz => ?_
  have R_23 : Box9 z3 (w.heap.size + 1) (.int .u8 6) (.int .u32 h5) (.int .u16 g0) (.int .u32 h6) (.int .u16 g1) (.int .i64 2) (.int .u8 0) (.bool false) (.int .u8 h3) := ⟨by rw [sz]; exact R_19.1, y3_0, y3_1, y3_2, y3_3, y3_4, y3_5, y3_6, y3_7, y3_8⟩
  have G_24 := G_20.far far ne1_
  have fzR_25 : ∀ i, z3.frozen? ⟨(w.heap.size + 1), i, none⟩ = false := fun i => (fzz _).trans (fzR_17 i)
  clear r3_0 r3_1 r3_2 r3_3 r3_4 r3_5 r3_6 r3_7 r3_8 y3_0 y3_1 y3_2 y3_3 y3_4 y3_5 y3_6 y3_7 y3_8 R_19 B21 G_20 fzR_17 far sz fzz
  obtain ⟨_, r4_0, r4_1, r4_2, r4_3, r4_4, r4_5, r4_6, r4_7, r4_8⟩ := id R_23
  obtain ⟨_, g5_0, g5_1, g5_2, g5_3, g5_4, g5_5, g5_6, g5_7, g5_8, g5_9⟩ := id G_24
  go_upto_region 6 with fail
  clear r4_0 r4_1 r4_2 r4_3 r4_4 r4_5 r4_6 r4_7 r4_8 g5_0 g5_1 g5_2 g5_3 g5_4 g5_5 g5_6 g5_7 g5_8 g5_9
  obtain ⟨_, r6_0, r6_1, r6_2, r6_3, r6_4, r6_5, r6_6, r6_7, r6_8⟩ := id R_23
  obtain ⟨_, g7_0, g7_1, g7_2, g7_3, g7_4, g7_5, g7_6, g7_7, g7_8, g7_9⟩ := id G_24
  have B26 := (B22.setCell (p := ⟨(w.heap.size + 1), 6, none⟩) (Nat.le_succ _) (.int .u8 g5))
  have R_27 : Box9 (z3.setCell ⟨(w.heap.size + 1), 6, none⟩ (.int .u8 g5)) (w.heap.size + 1) (.int .u8 6) (.int .u32 h5) (.int .u16 g0) (.int .u32 h6) (.int .u16 g1) (.int .i64 2) (.int .u8 g5) (.bool false) (.int .u8 h3) := ⟨by have := R_23.1; simpa using this, by simp [go_sem, r6_0, r6_1, r6_2, r6_3, r6_4, r6_5, r6_6, r6_7, r6_8, g7_0, g7_1, g7_2, g7_3, g7_4, g7_5, g7_6, g7_7, g7_8, g7_9], by simp [go_sem, r6_0, r6_1, r6_2, r6_3, r6_4, r6_5, r6_6, r6_7, r6_8, g7_0, g7_1, g7_2, g7_3, g7_4, g7_5, g7_6, g7_7, g7_8, g7_9], by simp [go_sem, r6_0, r6_1, r6_2, r6_3, r6_4, r6_5, r6_6, r6_7, r6_8, g7_0, g7_1, g7_2, g7_3, g7_4, g7_5, g7_6, g7_7, g7_8, g7_9], by simp [go_sem, r6_0, r6_1, r6_2, r6_3, r6_4, r6_5, r6_6, r6_7, r6_8, g7_0, g7_1, g7_2, g7_3, g7_4, g7_5, g7_6, g7_7, g7_8, g7_9], by simp [go_sem, r6_0, r6_1, r6_2, r6_3, r6_4, r6_5, r6_6, r6_7, r6_8, g7_0, g7_1, g7_2, g7_3, g7_4, g7_5, g7_6, g7_7, g7_8, g7_9], by simp [go_sem, r6_0, r6_1, r6_2, r6_3, r6_4, r6_5, r6_6, r6_7, r6_8, g7_0, g7_1, g7_2, g7_3, g7_4, g7_5, g7_6, g7_7, g7_8, g7_9], by simp [go_sem, r6_0, r6_1, r6_2, r6_3, r6_4, r6_5, r6_6, r6_7, r6_8, g7_0, g7_1, g7_2, g7_3, g7_4, g7_5, g7_6, g7_7, g7_8, g7_9], by simp [go_sem, r6_0, r6_1, r6_2, r6_3, r6_4, r6_5, r6_6, r6_7, r6_8, g7_0, g7_1, g7_2, g7_3, g7_4, g7_5, g7_6, g7_7, g7_8, g7_9], by simp [go_sem, r6_0, r6_1, r6_2, r6_3, r6_4, r6_5, r6_6, r6_7, r6_8, g7_0, g7_1, g7_2, g7_3, g7_4, g7_5, g7_6, g7_7, g7_8, g7_9]⟩
  have G_28 : Box10 (z3.setCell ⟨(w.heap.size + 1), 6, none⟩ (.int .u8 g5)) w1.heap.size (.int .u16 g0) (.int .u16 g1) (.int .u32 g2) (.int .u32 g3) (.int .u8 g4) (.int .u8 g5) (.int .u16 g6) (.int .u16 g7) (.int .u16 g8) (.string g9) := ⟨by have := G_24.1; simpa using this, by simp [go_sem, r6_0, r6_1, r6_2, r6_3, r6_4, r6_5, r6_6, r6_7, r6_8, g7_0, g7_1, g7_2, g7_3, g7_4, g7_5, g7_6, g7_7, g7_8, g7_9], by simp [go_sem, r6_0, r6_1, r6_2, r6_3, r6_4, r6_5, r6_6, r6_7, r6_8, g7_0, g7_1, g7_2, g7_3, g7_4, g7_5, g7_6, g7_7, g7_8, g7_9], by simp [go_sem, r6_0, r6_1, r6_2, r6_3, r6_4, r6_5, r6_6, r6_7, r6_8, g7_0, g7_1, g7_2, g7_3, g7_4, g7_5, g7_6, g7_7, g7_8, g7_9], by simp [go_sem, r6_0, r6_1, r6_2, r6_3, r6_4, r6_5, r6_6, r6_7, r6_8, g7_0, g7_1, g7_2, g7_3, g7_4, g7_5, g7_6, g7_7, g7_8, g7_9], by simp [go_sem, r6_0, r6_1, r6_2, r6_3, r6_4, r6_5, r6_6, r6_7, r6_8, g7_0, g7_1, g7_2, g7_3, g7_4, g7_5, g7_6, g7_7, g7_8, g7_9], by simp [go_sem, r6_0, r6_1, r6_2, r6_3, r6_4, r6_5, r6_6, r6_7, r6_8, g7_0, g7_1, g7_2, g7_3, g7_4, g7_5, g7_6, g7_7, g7_8, g7_9], by simp [go_sem, r6_0, r6_1, r6_2, r6_3, r6_4, r6_5, r6_6, r6_7, r6_8, g7_0, g7_1, g7_2, g7_3, g7_4, g7_5, g7_6, g7_7, g7_8, g7_9], by simp [go_sem, r6_0, r6_1, r6_2, r6_3, r6_4, r6_5, r6_6, r6_7, r6_8, g7_0, g7_1, g7_2, g7_3, g7_4, g7_5, g7_6, g7_7, g7_8, g7_9], by simp [go_sem, r6_0, r6_1, r6_2, r6_3, r6_4, r6_5, r6_6, r6_7, r6_8, g7_0, g7_1, g7_2, g7_3, g7_4, g7_5, g7_6, g7_7, g7_8, g7_9], by simp [go_sem, r6_0, r6_1, r6_2, r6_3, r6_4, r6_5, r6_6, r6_7, r6_8, g7_0, g7_1, g7_2, g7_3, g7_4, g7_5, g7_6, g7_7, g7_8, g7_9]⟩
  have fzR_29 : ∀ i, (z3.setCell ⟨(w.heap.size + 1), 6, none⟩ (.int .u8 g5)).frozen? ⟨(w.heap.size + 1), i, none⟩ = false := by intro i; simp [fzR_25]
  clear r6_0 r6_1 r6_2 r6_3 r6_4 r6_5 r6_6 r6_7 r6_8 g7_0 g7_1 g7_2 g7_3 g7_4 g7_5 g7_6 g7_7 g7_8 g7_9 R_23 G_24 fzR_25 B22
  obtain ⟨u4, hu4⟩ : ∃ x, x = (z3.setCell ⟨(w.heap.size + 1), 6, none⟩ (.int .u8 g5)) := ⟨_, rfl⟩
  rw [← hu4] at R_27 G_28 fzR_29 B26 ⊢
  clear hu4
  obtain ⟨_, g8_0, g8_1, g8_2, g8_3, g8_4, g8_5, g8_6, g8_7, g8_8, g8_9⟩ := id G_28
  obtain ⟨_, r9_0, r9_1, r9_2, r9_3, r9_4, r9_5, r9_6, r9_7, r9_8⟩ := id R_27
  go_wp2
  have sm_ : ∀ j, j < 9 → ((u4.setCell ⟨w.heap.size + 1, 5, none⟩ (.int .i64 1)).cell? ⟨w.heap.size + 1, j, none⟩).isSome = true := by
    intro j hj
    match j, hj with
    | 0, _ => simp [go_sem, r9_0]
    | 1, _ => simp [go_sem, r9_1]
    | 2, _ => simp [go_sem, r9_2]
    | 3, _ => simp [go_sem, r9_3]
    | 4, _ => simp [go_sem, r9_4]
    | 5, _ => simp [go_sem, r9_5]
    | 6, _ => simp [go_sem, r9_6]
    | 7, _ => simp [go_sem, r9_7]
    | 8, _ => simp [go_sem, r9_8]
  refine box9_ (b := w.heap.size + 1) sm_ (B26.setCell (p := ⟨w.heap.size + 1, 5, none⟩) (Nat.le_succ _) (.int .i64 1)) (Nat.le_succ _) fun Z y0 y1 y2 y3 y4 y5 y6 y7 y8 BZ _ _ => ?_
  refine bodyPost_ret (v := .tuple #[.agg #[.int .u8 6, .int .u32 h5, .int .u16 g0, .int .u32 h6, .int .u16 g1, .int .i64 1, .int .u8 g5, .bool false, .int .u8 h3], .int .i64 0]) (by simp [results, Tryd.results17, go_sem, y0, y1, y2, y3, y4, y5, y6, y7, y8]) rfl ?_
  exact ⟨rfl, BZ⟩
set_option maxHeartbeats 4000000 in
set_option maxRecDepth 100000 in
theorem segment8_flow (h0 h1 h3 h5 h6 : Int) (h2 : Bool) (h7 L : ByteArray) (g0 g1 g2 g3 g4 g5 g6 g7 g8 : Int) (g9 Q : ByteArray) (cm : ∀ u : World, Calls Tryd.prog 32 #[.string L] u fun e w' => e = .returned (.tuple #[.agg #[.int .u16 g0, .int .u16 g1, .int .u32 g2, .int .u32 g3, .int .u8 g4, .int .u8 g5, .int .u16 g6, .int .u16 g7, .int .u16 g8, .string g9], .string Q, .bool true]) ∧ Below u.heap.size u w') (e2 : (bits .and .u8 g5 23 == 2) = false) (w : World) :
    Calls Tryd.prog 17 #[.agg #[.int .u8 h0, .int .u16 h1, .bool h2, .int .u8 h3, .int .u8 6, .int .u32 h5, .int .u32 h6, .string h7, .string L]] w fun e w' => e = .returned (.tuple #[.agg #[.int .u8 6, .int .u32 h5, .int .u16 g0, .int .u32 h6, .int .u16 g1, .int .i64 2, .int .u8 g5, .bool false, .int .u8 h3], .int .i64 0]) ∧ Below w.heap.size w w' := by
  go_enter Tryd.func17, Tryd.ntmps17
  have B1 := Below.refl w.heap.size w
  go_wp2_with fail
  have P_2 := Box9.make w (.int .u8 h0) (.int .u16 h1) (.bool h2) (.int .u8 h3) (.int .u8 6) (.int .u32 h5) (.int .u32 h6) (.string h7) (.string L) 52
  have B3 := B1.alloc B1.size (.cells #[.int .u8 h0, .int .u16 h1, .bool h2, .int .u8 h3, .int .u8 6, .int .u32 h5, .int .u32 h6, .string h7, .string L] 52)
  clear B1
  have P_4 := P_2.past (o := (.cells #[.int .u8 0, .int .u32 0, .int .u16 0, .int .u32 0, .int .u16 0, .int .i64 0, .int .u8 0, .bool false, .int .u8 0] 31))
  have hs_ : (w.alloc (.cells #[.int .u8 h0, .int .u16 h1, .bool h2, .int .u8 h3, .int .u8 6, .int .u32 h5, .int .u32 h6, .string h7, .string L] 52)).heap.size = w.heap.size + 1 := by simp
  have R_5 := Box9.make (w.alloc (.cells #[.int .u8 h0, .int .u16 h1, .bool h2, .int .u8 h3, .int .u8 6, .int .u32 h5, .int .u32 h6, .string h7, .string L] 52)) (.int .u8 0) (.int .u32 0) (.int .u16 0) (.int .u32 0) (.int .u16 0) (.int .i64 0) (.int .u8 0) (.bool false) (.int .u8 0) 31
  rw [hs_] at R_5
  clear hs_
  have B6 := B3.alloc B3.size (.cells #[.int .u8 0, .int .u32 0, .int .u16 0, .int .u32 0, .int .u16 0, .int .i64 0, .int .u8 0, .bool false, .int .u8 0] 31)
  clear P_2 B3
  have fzR_7 : ∀ i, ((w.alloc (.cells #[.int .u8 h0, .int .u16 h1, .bool h2, .int .u8 h3, .int .u8 6, .int .u32 h5, .int .u32 h6, .string h7, .string L] 52)).alloc (.cells #[.int .u8 0, .int .u32 0, .int .u16 0, .int .u32 0, .int .u16 0, .int .i64 0, .int .u8 0, .bool false, .int .u8 0] 31)).frozen? ⟨(w.heap.size + 1), i, none⟩ = false := by intro i; simp [go_sem]
  obtain ⟨u1, hu1⟩ : ∃ x, x = (w.alloc (.cells #[.int .u8 h0, .int .u16 h1, .bool h2, .int .u8 h3, .int .u8 6, .int .u32 h5, .int .u32 h6, .string h7, .string L] 52)).alloc (.cells #[.int .u8 0, .int .u32 0, .int .u16 0, .int .u32 0, .int .u16 0, .int .i64 0, .int .u8 0, .bool false, .int .u8 0] 31) := ⟨_, rfl⟩
  rw [← hu1] at P_4 R_5 fzR_7 B6 ⊢
  clear hu1
  refine (cm _).mono ?_; rintro e w1 ⟨rfl, x1⟩
  have fzR_8 : ∀ i, w1.frozen? ⟨(w.heap.size + 1), i, none⟩ = false := fun i => (x1.frozen (p := ⟨_, i, none⟩) R_5.1).trans (fzR_7 i)
  clear fzR_7
  have P_9 := P_4.on x1
  have R_10 := R_5.on x1
  have B11 := B6.trans (x1.mono B6.size)
  clear P_4 R_5 B6 x1
  clear cm
  have Lt := Lib.hid (show w.heap.size + 1 < w1.heap.size from R_10.1)
  have fzR_12 : ∀ i, (w1.alloc (.cells #[.int .u16 g0, .int .u16 g1, .int .u32 g2, .int .u32 g3, .int .u8 g4, .int .u8 g5, .int .u16 g6, .int .u16 g7, .int .u16 g8, .string g9] 72)).frozen? ⟨(w.heap.size + 1), i, none⟩ = false := fun i => (((Below.refl w1.heap.size w1).alloc (Nat.le_refl _) (.cells #[.int .u16 g0, .int .u16 g1, .int .u32 g2, .int .u32 g3, .int .u8 g4, .int .u8 g5, .int .u16 g6, .int .u16 g7, .int .u16 g8, .string g9] 72)).frozen (p := ⟨_, i, none⟩) R_10.1).trans (fzR_8 i)
  clear fzR_8
  have P_13 := P_9.past (o := (.cells #[.int .u16 g0, .int .u16 g1, .int .u32 g2, .int .u32 g3, .int .u8 g4, .int .u8 g5, .int .u16 g6, .int .u16 g7, .int .u16 g8, .string g9] 72))
  have R_14 := R_10.past (o := (.cells #[.int .u16 g0, .int .u16 g1, .int .u32 g2, .int .u32 g3, .int .u8 g4, .int .u8 g5, .int .u16 g6, .int .u16 g7, .int .u16 g8, .string g9] 72))
  have G_15 := Box10.make w1 (.int .u16 g0) (.int .u16 g1) (.int .u32 g2) (.int .u32 g3) (.int .u8 g4) (.int .u8 g5) (.int .u16 g6) (.int .u16 g7) (.int .u16 g8) (.string g9) 72
  have B16 := B11.alloc B11.size (.cells #[.int .u16 g0, .int .u16 g1, .int .u32 g2, .int .u32 g3, .int .u8 g4, .int .u8 g5, .int .u16 g6, .int .u16 g7, .int .u16 g8, .string g9] 72)
  clear P_9 R_10 B11
  have ne1_ : ¬ w.heap.size + 1 = w1.heap.size := by have := Lt.out; omega
  have ne2_ : ¬ w1.heap.size = w.heap.size + 1 := by have := Lt.out; omega
  obtain ⟨_, p1_0, p1_1, p1_2, p1_3, p1_4, p1_5, p1_6, p1_7, p1_8⟩ := id P_13
  obtain ⟨_, g2_0, g2_1, g2_2, g2_3, g2_4, g2_5, g2_6, g2_7, g2_8, g2_9⟩ := id G_15
  go_wp2_with fail
  refine ((seen8_ h0 h1 h3 h5 h6 h2 h7 L 6 2 g0 g1 _)).mono ?_; rintro e w2 ⟨rfl, x2⟩
  have fzR_17 : ∀ i, w2.frozen? ⟨(w.heap.size + 1), i, none⟩ = false := fun i => (x2.frozen (p := ⟨_, i, none⟩) R_14.1).trans (fzR_12 i)
  clear fzR_12
  have P_18 := P_13.on x2
  have R_19 := R_14.on x2
  have G_20 := G_15.on x2
  have B21 := B16.trans (x2.mono B16.size)
  clear p1_0 p1_1 p1_2 p1_3 p1_4 p1_5 p1_6 p1_7 p1_8 g2_0 g2_1 g2_2 g2_3 g2_4 g2_5 g2_6 g2_7 g2_8 g2_9 P_13 R_14 G_15 B16 x2
  clear P_18
  obtain ⟨_, r3_0, r3_1, r3_2, r3_3, r3_4, r3_5, r3_6, r3_7, r3_8⟩ := id R_19
  go_upto_region 5 with fail
  refine box9f_ (b := w.heap.size + 1) R_19.some B21 (Nat.le_succ _) fun z3 y3_0 y3_1 y3_2 y3_3 y3_4 y3_5 y3_6 y3_7 y3_8 B22 far sz fzz => ?_
  have R_23 : Box9 z3 (w.heap.size + 1) (.int .u8 6) (.int .u32 h5) (.int .u16 g0) (.int .u32 h6) (.int .u16 g1) (.int .i64 2) (.int .u8 0) (.bool false) (.int .u8 h3) := ⟨by rw [sz]; exact R_19.1, y3_0, y3_1, y3_2, y3_3, y3_4, y3_5, y3_6, y3_7, y3_8⟩
  have G_24 := G_20.far far ne1_
  have fzR_25 : ∀ i, z3.frozen? ⟨(w.heap.size + 1), i, none⟩ = false := fun i => (fzz _).trans (fzR_17 i)
  clear r3_0 r3_1 r3_2 r3_3 r3_4 r3_5 r3_6 r3_7 r3_8 y3_0 y3_1 y3_2 y3_3 y3_4 y3_5 y3_6 y3_7 y3_8 R_19 B21 G_20 fzR_17 far sz fzz
  obtain ⟨_, r4_0, r4_1, r4_2, r4_3, r4_4, r4_5, r4_6, r4_7, r4_8⟩ := id R_23
  obtain ⟨_, g5_0, g5_1, g5_2, g5_3, g5_4, g5_5, g5_6, g5_7, g5_8, g5_9⟩ := id G_24
  go_upto_region 6 with fail
  clear r4_0 r4_1 r4_2 r4_3 r4_4 r4_5 r4_6 r4_7 r4_8 g5_0 g5_1 g5_2 g5_3 g5_4 g5_5 g5_6 g5_7 g5_8 g5_9
  obtain ⟨_, r6_0, r6_1, r6_2, r6_3, r6_4, r6_5, r6_6, r6_7, r6_8⟩ := id R_23
  obtain ⟨_, g7_0, g7_1, g7_2, g7_3, g7_4, g7_5, g7_6, g7_7, g7_8, g7_9⟩ := id G_24
  have B26 := (B22.setCell (p := ⟨(w.heap.size + 1), 6, none⟩) (Nat.le_succ _) (.int .u8 g5))
  have R_27 : Box9 (z3.setCell ⟨(w.heap.size + 1), 6, none⟩ (.int .u8 g5)) (w.heap.size + 1) (.int .u8 6) (.int .u32 h5) (.int .u16 g0) (.int .u32 h6) (.int .u16 g1) (.int .i64 2) (.int .u8 g5) (.bool false) (.int .u8 h3) := ⟨by have := R_23.1; simpa using this, by simp [go_sem, r6_0, r6_1, r6_2, r6_3, r6_4, r6_5, r6_6, r6_7, r6_8, g7_0, g7_1, g7_2, g7_3, g7_4, g7_5, g7_6, g7_7, g7_8, g7_9], by simp [go_sem, r6_0, r6_1, r6_2, r6_3, r6_4, r6_5, r6_6, r6_7, r6_8, g7_0, g7_1, g7_2, g7_3, g7_4, g7_5, g7_6, g7_7, g7_8, g7_9], by simp [go_sem, r6_0, r6_1, r6_2, r6_3, r6_4, r6_5, r6_6, r6_7, r6_8, g7_0, g7_1, g7_2, g7_3, g7_4, g7_5, g7_6, g7_7, g7_8, g7_9], by simp [go_sem, r6_0, r6_1, r6_2, r6_3, r6_4, r6_5, r6_6, r6_7, r6_8, g7_0, g7_1, g7_2, g7_3, g7_4, g7_5, g7_6, g7_7, g7_8, g7_9], by simp [go_sem, r6_0, r6_1, r6_2, r6_3, r6_4, r6_5, r6_6, r6_7, r6_8, g7_0, g7_1, g7_2, g7_3, g7_4, g7_5, g7_6, g7_7, g7_8, g7_9], by simp [go_sem, r6_0, r6_1, r6_2, r6_3, r6_4, r6_5, r6_6, r6_7, r6_8, g7_0, g7_1, g7_2, g7_3, g7_4, g7_5, g7_6, g7_7, g7_8, g7_9], by simp [go_sem, r6_0, r6_1, r6_2, r6_3, r6_4, r6_5, r6_6, r6_7, r6_8, g7_0, g7_1, g7_2, g7_3, g7_4, g7_5, g7_6, g7_7, g7_8, g7_9], by simp [go_sem, r6_0, r6_1, r6_2, r6_3, r6_4, r6_5, r6_6, r6_7, r6_8, g7_0, g7_1, g7_2, g7_3, g7_4, g7_5, g7_6, g7_7, g7_8, g7_9], by simp [go_sem, r6_0, r6_1, r6_2, r6_3, r6_4, r6_5, r6_6, r6_7, r6_8, g7_0, g7_1, g7_2, g7_3, g7_4, g7_5, g7_6, g7_7, g7_8, g7_9]⟩
  have G_28 : Box10 (z3.setCell ⟨(w.heap.size + 1), 6, none⟩ (.int .u8 g5)) w1.heap.size (.int .u16 g0) (.int .u16 g1) (.int .u32 g2) (.int .u32 g3) (.int .u8 g4) (.int .u8 g5) (.int .u16 g6) (.int .u16 g7) (.int .u16 g8) (.string g9) := ⟨by have := G_24.1; simpa using this, by simp [go_sem, r6_0, r6_1, r6_2, r6_3, r6_4, r6_5, r6_6, r6_7, r6_8, g7_0, g7_1, g7_2, g7_3, g7_4, g7_5, g7_6, g7_7, g7_8, g7_9], by simp [go_sem, r6_0, r6_1, r6_2, r6_3, r6_4, r6_5, r6_6, r6_7, r6_8, g7_0, g7_1, g7_2, g7_3, g7_4, g7_5, g7_6, g7_7, g7_8, g7_9], by simp [go_sem, r6_0, r6_1, r6_2, r6_3, r6_4, r6_5, r6_6, r6_7, r6_8, g7_0, g7_1, g7_2, g7_3, g7_4, g7_5, g7_6, g7_7, g7_8, g7_9], by simp [go_sem, r6_0, r6_1, r6_2, r6_3, r6_4, r6_5, r6_6, r6_7, r6_8, g7_0, g7_1, g7_2, g7_3, g7_4, g7_5, g7_6, g7_7, g7_8, g7_9], by simp [go_sem, r6_0, r6_1, r6_2, r6_3, r6_4, r6_5, r6_6, r6_7, r6_8, g7_0, g7_1, g7_2, g7_3, g7_4, g7_5, g7_6, g7_7, g7_8, g7_9], by simp [go_sem, r6_0, r6_1, r6_2, r6_3, r6_4, r6_5, r6_6, r6_7, r6_8, g7_0, g7_1, g7_2, g7_3, g7_4, g7_5, g7_6, g7_7, g7_8, g7_9], by simp [go_sem, r6_0, r6_1, r6_2, r6_3, r6_4, r6_5, r6_6, r6_7, r6_8, g7_0, g7_1, g7_2, g7_3, g7_4, g7_5, g7_6, g7_7, g7_8, g7_9], by simp [go_sem, r6_0, r6_1, r6_2, r6_3, r6_4, r6_5, r6_6, r6_7, r6_8, g7_0, g7_1, g7_2, g7_3, g7_4, g7_5, g7_6, g7_7, g7_8, g7_9], by simp [go_sem, r6_0, r6_1, r6_2, r6_3, r6_4, r6_5, r6_6, r6_7, r6_8, g7_0, g7_1, g7_2, g7_3, g7_4, g7_5, g7_6, g7_7, g7_8, g7_9], by simp [go_sem, r6_0, r6_1, r6_2, r6_3, r6_4, r6_5, r6_6, r6_7, r6_8, g7_0, g7_1, g7_2, g7_3, g7_4, g7_5, g7_6, g7_7, g7_8, g7_9]⟩
  have fzR_29 : ∀ i, (z3.setCell ⟨(w.heap.size + 1), 6, none⟩ (.int .u8 g5)).frozen? ⟨(w.heap.size + 1), i, none⟩ = false := by intro i; simp [fzR_25]
  clear r6_0 r6_1 r6_2 r6_3 r6_4 r6_5 r6_6 r6_7 r6_8 g7_0 g7_1 g7_2 g7_3 g7_4 g7_5 g7_6 g7_7 g7_8 g7_9 R_23 G_24 fzR_25 B22
  obtain ⟨u4, hu4⟩ : ∃ x, x = (z3.setCell ⟨(w.heap.size + 1), 6, none⟩ (.int .u8 g5)) := ⟨_, rfl⟩
  rw [← hu4] at R_27 G_28 fzR_29 B26 ⊢
  clear hu4
  obtain ⟨_, g8_0, g8_1, g8_2, g8_3, g8_4, g8_5, g8_6, g8_7, g8_8, g8_9⟩ := id G_28
  obtain ⟨_, r9_0, r9_1, r9_2, r9_3, r9_4, r9_5, r9_6, r9_7, r9_8⟩ := id R_27
  go_wp2
  refine box9_ (b := w.heap.size + 1) R_27.some B26 (Nat.le_succ _) fun Z y0 y1 y2 y3 y4 y5 y6 y7 y8 BZ _ _ => ?_
  refine bodyPost_ret (v := .tuple #[.agg #[.int .u8 6, .int .u32 h5, .int .u16 g0, .int .u32 h6, .int .u16 g1, .int .i64 2, .int .u8 g5, .bool false, .int .u8 h3], .int .i64 0]) (by simp [results, Tryd.results17, go_sem, y0, y1, y2, y3, y4, y5, y6, y7, y8]) rfl ?_
  exact ⟨rfl, BZ⟩
set_option maxHeartbeats 4000000 in
set_option maxRecDepth 100000 in
theorem message8_bad (h0 h1 h3 h5 h6 : Int) (h2 : Bool) (h7 L : ByteArray) (cm : ∀ u : World, Calls Tryd.prog 35 #[.string L] u fun e w' => e = .returned (.tuple #[.agg #[.int .u8 0, .int .u8 0, .int .u16 0, .string ⟨#[]⟩, .string ⟨#[]⟩], .bool false]) ∧ Below u.heap.size u w') (w : World) :
    Calls Tryd.prog 19 #[.agg #[.int .u8 h0, .int .u16 h1, .bool h2, .int .u8 h3, .int .u8 1, .int .u32 h5, .int .u32 h6, .string h7, .string L]] w fun e w' => e = .returned (.tuple #[.agg #[.int .u8 0, .int .u32 0, .int .u16 0, .int .u32 0, .int .u16 0, .int .i64 0, .int .u8 0, .bool false, .int .u8 0], .int .i64 7]) ∧ Below w.heap.size w w' := by
  go_enter Tryd.func19, Tryd.ntmps19
  have B1 := Below.refl w.heap.size w
  go_wp2_with fail
  have P_2 := Box9.make w (.int .u8 h0) (.int .u16 h1) (.bool h2) (.int .u8 h3) (.int .u8 1) (.int .u32 h5) (.int .u32 h6) (.string h7) (.string L) 52
  have B3 := B1.alloc B1.size (.cells #[.int .u8 h0, .int .u16 h1, .bool h2, .int .u8 h3, .int .u8 1, .int .u32 h5, .int .u32 h6, .string h7, .string L] 52)
  clear B1
  have P_4 := P_2.past (o := (.cells #[.int .u8 0, .int .u32 0, .int .u16 0, .int .u32 0, .int .u16 0, .int .i64 0, .int .u8 0, .bool false, .int .u8 0] 31))
  have hs_ : (w.alloc (.cells #[.int .u8 h0, .int .u16 h1, .bool h2, .int .u8 h3, .int .u8 1, .int .u32 h5, .int .u32 h6, .string h7, .string L] 52)).heap.size = w.heap.size + 1 := by simp
  have R_5 := Box9.make (w.alloc (.cells #[.int .u8 h0, .int .u16 h1, .bool h2, .int .u8 h3, .int .u8 1, .int .u32 h5, .int .u32 h6, .string h7, .string L] 52)) (.int .u8 0) (.int .u32 0) (.int .u16 0) (.int .u32 0) (.int .u16 0) (.int .i64 0) (.int .u8 0) (.bool false) (.int .u8 0) 31
  rw [hs_] at R_5
  clear hs_
  have B6 := B3.alloc B3.size (.cells #[.int .u8 0, .int .u32 0, .int .u16 0, .int .u32 0, .int .u16 0, .int .i64 0, .int .u8 0, .bool false, .int .u8 0] 31)
  clear P_2 B3
  have fzR_7 : ∀ i, ((w.alloc (.cells #[.int .u8 h0, .int .u16 h1, .bool h2, .int .u8 h3, .int .u8 1, .int .u32 h5, .int .u32 h6, .string h7, .string L] 52)).alloc (.cells #[.int .u8 0, .int .u32 0, .int .u16 0, .int .u32 0, .int .u16 0, .int .i64 0, .int .u8 0, .bool false, .int .u8 0] 31)).frozen? ⟨(w.heap.size + 1), i, none⟩ = false := by intro i; simp [go_sem]
  obtain ⟨u1, hu1⟩ : ∃ x, x = (w.alloc (.cells #[.int .u8 h0, .int .u16 h1, .bool h2, .int .u8 h3, .int .u8 1, .int .u32 h5, .int .u32 h6, .string h7, .string L] 52)).alloc (.cells #[.int .u8 0, .int .u32 0, .int .u16 0, .int .u32 0, .int .u16 0, .int .i64 0, .int .u8 0, .bool false, .int .u8 0] 31) := ⟨_, rfl⟩
  rw [← hu1] at P_4 R_5 fzR_7 B6 ⊢
  clear hu1
  refine (cm _).mono ?_; rintro e w1 ⟨rfl, x1⟩
  have fzR_8 : ∀ i, w1.frozen? ⟨(w.heap.size + 1), i, none⟩ = false := fun i => (x1.frozen (p := ⟨_, i, none⟩) R_5.1).trans (fzR_7 i)
  clear fzR_7
  have P_9 := P_4.on x1
  have R_10 := R_5.on x1
  have B11 := B6.trans (x1.mono B6.size)
  clear P_4 R_5 B6 x1
  clear cm
  have Lt := Lib.hid (show w.heap.size + 1 < w1.heap.size from R_10.1)
  have fzR_12 : ∀ i, (w1.alloc (.cells #[.int .u8 0, .int .u8 0, .int .u16 0, .string ⟨#[]⟩, .string ⟨#[]⟩] 81)).frozen? ⟨(w.heap.size + 1), i, none⟩ = false := fun i => (((Below.refl w1.heap.size w1).alloc (Nat.le_refl _) (.cells #[.int .u8 0, .int .u8 0, .int .u16 0, .string ⟨#[]⟩, .string ⟨#[]⟩] 81)).frozen (p := ⟨_, i, none⟩) R_10.1).trans (fzR_8 i)
  clear fzR_8
  have P_13 := P_9.past (o := (.cells #[.int .u8 0, .int .u8 0, .int .u16 0, .string ⟨#[]⟩, .string ⟨#[]⟩] 81))
  have R_14 := R_10.past (o := (.cells #[.int .u8 0, .int .u8 0, .int .u16 0, .string ⟨#[]⟩, .string ⟨#[]⟩] 81))
  have G_15 := Box5.make w1 (.int .u8 0) (.int .u8 0) (.int .u16 0) (.string ⟨#[]⟩) (.string ⟨#[]⟩) 81
  have B16 := B11.alloc B11.size (.cells #[.int .u8 0, .int .u8 0, .int .u16 0, .string ⟨#[]⟩, .string ⟨#[]⟩] 81)
  clear P_9 R_10 B11
  obtain ⟨_, r1_0, r1_1, r1_2, r1_3, r1_4, r1_5, r1_6, r1_7, r1_8⟩ := id R_14
  go_wp2
  refine box9_ (b := w.heap.size + 1) R_14.some B16 (Nat.le_succ _) fun Z y0 y1 y2 y3 y4 y5 y6 y7 y8 BZ _ _ => ?_
  refine bodyPost_ret (v := .tuple #[.agg #[.int .u8 0, .int .u32 0, .int .u16 0, .int .u32 0, .int .u16 0, .int .i64 0, .int .u8 0, .bool false, .int .u8 0], .int .i64 7]) (by simp [results, Tryd.results19, go_sem, y0, y1, y2, y3, y4, y5, y6, y7, y8]) rfl ?_
  exact ⟨rfl, BZ⟩
set_option maxHeartbeats 4000000 in
set_option maxRecDepth 100000 in
theorem message8_odd (h0 h1 h3 h5 h6 : Int) (h2 : Bool) (h7 L : ByteArray) (m0 m1 m2 : Int) (m3 m4 : ByteArray) (cm : ∀ u : World, Calls Tryd.prog 35 #[.string L] u fun e w' => e = .returned (.tuple #[.agg #[.int .u8 m0, .int .u8 m1, .int .u16 m2, .string m3, .string m4], .bool true]) ∧ Below u.heap.size u w') (cq : ∀ u : World, Calls Tryd.prog 36 #[.agg #[.int .u8 m0, .int .u8 m1, .int .u16 m2, .string m3, .string m4]] u fun e w' => e = .returned (.tuple #[.bool false, .bool false]) ∧ Below u.heap.size u w') (ce : ∀ u : World, Calls Tryd.prog 38 #[.agg #[.int .u8 m0, .int .u8 m1, .int .u16 m2, .string m3, .string m4]] u fun e w' => e = .returned (.bool false) ∧ Below u.heap.size u w') (w : World) :
    Calls Tryd.prog 19 #[.agg #[.int .u8 h0, .int .u16 h1, .bool h2, .int .u8 h3, .int .u8 1, .int .u32 h5, .int .u32 h6, .string h7, .string L]] w fun e w' => e = .returned (.tuple #[.agg #[.int .u8 0, .int .u32 0, .int .u16 0, .int .u32 0, .int .u16 0, .int .i64 0, .int .u8 0, .bool false, .int .u8 0], .int .i64 6]) ∧ Below w.heap.size w w' := by
  go_enter Tryd.func19, Tryd.ntmps19
  have B1 := Below.refl w.heap.size w
  go_wp2_with fail
  have P_2 := Box9.make w (.int .u8 h0) (.int .u16 h1) (.bool h2) (.int .u8 h3) (.int .u8 1) (.int .u32 h5) (.int .u32 h6) (.string h7) (.string L) 52
  have B3 := B1.alloc B1.size (.cells #[.int .u8 h0, .int .u16 h1, .bool h2, .int .u8 h3, .int .u8 1, .int .u32 h5, .int .u32 h6, .string h7, .string L] 52)
  clear B1
  have P_4 := P_2.past (o := (.cells #[.int .u8 0, .int .u32 0, .int .u16 0, .int .u32 0, .int .u16 0, .int .i64 0, .int .u8 0, .bool false, .int .u8 0] 31))
  have hs_ : (w.alloc (.cells #[.int .u8 h0, .int .u16 h1, .bool h2, .int .u8 h3, .int .u8 1, .int .u32 h5, .int .u32 h6, .string h7, .string L] 52)).heap.size = w.heap.size + 1 := by simp
  have R_5 := Box9.make (w.alloc (.cells #[.int .u8 h0, .int .u16 h1, .bool h2, .int .u8 h3, .int .u8 1, .int .u32 h5, .int .u32 h6, .string h7, .string L] 52)) (.int .u8 0) (.int .u32 0) (.int .u16 0) (.int .u32 0) (.int .u16 0) (.int .i64 0) (.int .u8 0) (.bool false) (.int .u8 0) 31
  rw [hs_] at R_5
  clear hs_
  have B6 := B3.alloc B3.size (.cells #[.int .u8 0, .int .u32 0, .int .u16 0, .int .u32 0, .int .u16 0, .int .i64 0, .int .u8 0, .bool false, .int .u8 0] 31)
  clear P_2 B3
  have fzR_7 : ∀ i, ((w.alloc (.cells #[.int .u8 h0, .int .u16 h1, .bool h2, .int .u8 h3, .int .u8 1, .int .u32 h5, .int .u32 h6, .string h7, .string L] 52)).alloc (.cells #[.int .u8 0, .int .u32 0, .int .u16 0, .int .u32 0, .int .u16 0, .int .i64 0, .int .u8 0, .bool false, .int .u8 0] 31)).frozen? ⟨(w.heap.size + 1), i, none⟩ = false := by intro i; simp [go_sem]
  obtain ⟨u1, hu1⟩ : ∃ x, x = (w.alloc (.cells #[.int .u8 h0, .int .u16 h1, .bool h2, .int .u8 h3, .int .u8 1, .int .u32 h5, .int .u32 h6, .string h7, .string L] 52)).alloc (.cells #[.int .u8 0, .int .u32 0, .int .u16 0, .int .u32 0, .int .u16 0, .int .i64 0, .int .u8 0, .bool false, .int .u8 0] 31) := ⟨_, rfl⟩
  rw [← hu1] at P_4 R_5 fzR_7 B6 ⊢
  clear hu1
  refine (cm _).mono ?_; rintro e w1 ⟨rfl, x1⟩
  have fzR_8 : ∀ i, w1.frozen? ⟨(w.heap.size + 1), i, none⟩ = false := fun i => (x1.frozen (p := ⟨_, i, none⟩) R_5.1).trans (fzR_7 i)
  clear fzR_7
  have P_9 := P_4.on x1
  have R_10 := R_5.on x1
  have B11 := B6.trans (x1.mono B6.size)
  clear P_4 R_5 B6 x1
  clear cm
  have Lt := Lib.hid (show w.heap.size + 1 < w1.heap.size from R_10.1)
  have fzR_12 : ∀ i, (w1.alloc (.cells #[.int .u8 m0, .int .u8 m1, .int .u16 m2, .string m3, .string m4] 81)).frozen? ⟨(w.heap.size + 1), i, none⟩ = false := fun i => (((Below.refl w1.heap.size w1).alloc (Nat.le_refl _) (.cells #[.int .u8 m0, .int .u8 m1, .int .u16 m2, .string m3, .string m4] 81)).frozen (p := ⟨_, i, none⟩) R_10.1).trans (fzR_8 i)
  clear fzR_8
  have P_13 := P_9.past (o := (.cells #[.int .u8 m0, .int .u8 m1, .int .u16 m2, .string m3, .string m4] 81))
  have R_14 := R_10.past (o := (.cells #[.int .u8 m0, .int .u8 m1, .int .u16 m2, .string m3, .string m4] 81))
  have G_15 := Box5.make w1 (.int .u8 m0) (.int .u8 m1) (.int .u16 m2) (.string m3) (.string m4) 81
  have B16 := B11.alloc B11.size (.cells #[.int .u8 m0, .int .u8 m1, .int .u16 m2, .string m3, .string m4] 81)
  clear P_9 R_10 B11
  have ne1_ : ¬ w.heap.size + 1 = w1.heap.size := by have := Lt.out; omega
  have ne2_ : ¬ w1.heap.size = w.heap.size + 1 := by have := Lt.out; omega
  obtain ⟨_, g1_0, g1_1, g1_2, g1_3, g1_4⟩ := id G_15
  go_wp2_with fail
  refine (cq _).mono ?_; rintro e w2 ⟨rfl, x2⟩
  have fzR_17 : ∀ i, w2.frozen? ⟨(w.heap.size + 1), i, none⟩ = false := fun i => (x2.frozen (p := ⟨_, i, none⟩) R_14.1).trans (fzR_12 i)
  clear fzR_12
  have P_18 := P_13.on x2
  have R_19 := R_14.on x2
  have G_20 := G_15.on x2
  have B21 := B16.trans (x2.mono B16.size)
  clear g1_0 g1_1 g1_2 g1_3 g1_4 P_13 R_14 G_15 B16 x2
  clear cq
  obtain ⟨_, g2_0, g2_1, g2_2, g2_3, g2_4⟩ := id G_20
  go_wp2_with fail
  refine (ce _).mono ?_; rintro e w3 ⟨rfl, x3⟩
  have fzR_22 : ∀ i, w3.frozen? ⟨(w.heap.size + 1), i, none⟩ = false := fun i => (x3.frozen (p := ⟨_, i, none⟩) R_19.1).trans (fzR_17 i)
  clear fzR_17
  have P_23 := P_18.on x3
  have R_24 := R_19.on x3
  have G_25 := G_20.on x3
  have B26 := B21.trans (x3.mono B21.size)
  clear g2_0 g2_1 g2_2 g2_3 g2_4 P_18 R_19 G_20 B21 x3
  clear ce
  obtain ⟨_, r3_0, r3_1, r3_2, r3_3, r3_4, r3_5, r3_6, r3_7, r3_8⟩ := id R_24
  go_wp2
  refine box9_ (b := w.heap.size + 1) R_24.some B26 (Nat.le_succ _) fun Z y0 y1 y2 y3 y4 y5 y6 y7 y8 BZ _ _ => ?_
  refine bodyPost_ret (v := .tuple #[.agg #[.int .u8 0, .int .u32 0, .int .u16 0, .int .u32 0, .int .u16 0, .int .i64 0, .int .u8 0, .bool false, .int .u8 0], .int .i64 6]) (by simp [results, Tryd.results19, go_sem, y0, y1, y2, y3, y4, y5, y6, y7, y8]) rfl ?_
  exact ⟨rfl, BZ⟩
set_option maxHeartbeats 4000000 in
set_option maxRecDepth 100000 in
theorem message8_err (h0 h1 h3 h5 h6 : Int) (h2 : Bool) (h7 L : ByteArray) (m0 m1 m2 : Int) (m3 m4 : ByteArray) (cm : ∀ u : World, Calls Tryd.prog 35 #[.string L] u fun e w' => e = .returned (.tuple #[.agg #[.int .u8 m0, .int .u8 m1, .int .u16 m2, .string m3, .string m4], .bool true]) ∧ Below u.heap.size u w') (cq : ∀ u : World, Calls Tryd.prog 36 #[.agg #[.int .u8 m0, .int .u8 m1, .int .u16 m2, .string m3, .string m4]] u fun e w' => e = .returned (.tuple #[.bool false, .bool false]) ∧ Below u.heap.size u w') (ce : ∀ u : World, Calls Tryd.prog 38 #[.agg #[.int .u8 m0, .int .u8 m1, .int .u16 m2, .string m3, .string m4]] u fun e w' => e = .returned (.bool true) ∧ Below u.heap.size u w') (w : World) :
    Calls Tryd.prog 19 #[.agg #[.int .u8 h0, .int .u16 h1, .bool h2, .int .u8 h3, .int .u8 1, .int .u32 h5, .int .u32 h6, .string h7, .string L]] w fun e w' => e = .returned (.tuple #[.agg #[.int .u8 1, .int .u32 h5, .int .u16 0, .int .u32 h6, .int .u16 0, .int .i64 3, .int .u8 0, .bool false, .int .u8 h3], .int .i64 0]) ∧ Below w.heap.size w w' := by
  go_enter Tryd.func19, Tryd.ntmps19
  have B1 := Below.refl w.heap.size w
  go_wp2_with fail
  have P_2 := Box9.make w (.int .u8 h0) (.int .u16 h1) (.bool h2) (.int .u8 h3) (.int .u8 1) (.int .u32 h5) (.int .u32 h6) (.string h7) (.string L) 52
  have B3 := B1.alloc B1.size (.cells #[.int .u8 h0, .int .u16 h1, .bool h2, .int .u8 h3, .int .u8 1, .int .u32 h5, .int .u32 h6, .string h7, .string L] 52)
  clear B1
  have P_4 := P_2.past (o := (.cells #[.int .u8 0, .int .u32 0, .int .u16 0, .int .u32 0, .int .u16 0, .int .i64 0, .int .u8 0, .bool false, .int .u8 0] 31))
  have hs_ : (w.alloc (.cells #[.int .u8 h0, .int .u16 h1, .bool h2, .int .u8 h3, .int .u8 1, .int .u32 h5, .int .u32 h6, .string h7, .string L] 52)).heap.size = w.heap.size + 1 := by simp
  have R_5 := Box9.make (w.alloc (.cells #[.int .u8 h0, .int .u16 h1, .bool h2, .int .u8 h3, .int .u8 1, .int .u32 h5, .int .u32 h6, .string h7, .string L] 52)) (.int .u8 0) (.int .u32 0) (.int .u16 0) (.int .u32 0) (.int .u16 0) (.int .i64 0) (.int .u8 0) (.bool false) (.int .u8 0) 31
  rw [hs_] at R_5
  clear hs_
  have B6 := B3.alloc B3.size (.cells #[.int .u8 0, .int .u32 0, .int .u16 0, .int .u32 0, .int .u16 0, .int .i64 0, .int .u8 0, .bool false, .int .u8 0] 31)
  clear P_2 B3
  have fzR_7 : ∀ i, ((w.alloc (.cells #[.int .u8 h0, .int .u16 h1, .bool h2, .int .u8 h3, .int .u8 1, .int .u32 h5, .int .u32 h6, .string h7, .string L] 52)).alloc (.cells #[.int .u8 0, .int .u32 0, .int .u16 0, .int .u32 0, .int .u16 0, .int .i64 0, .int .u8 0, .bool false, .int .u8 0] 31)).frozen? ⟨(w.heap.size + 1), i, none⟩ = false := by intro i; simp [go_sem]
  obtain ⟨u1, hu1⟩ : ∃ x, x = (w.alloc (.cells #[.int .u8 h0, .int .u16 h1, .bool h2, .int .u8 h3, .int .u8 1, .int .u32 h5, .int .u32 h6, .string h7, .string L] 52)).alloc (.cells #[.int .u8 0, .int .u32 0, .int .u16 0, .int .u32 0, .int .u16 0, .int .i64 0, .int .u8 0, .bool false, .int .u8 0] 31) := ⟨_, rfl⟩
  rw [← hu1] at P_4 R_5 fzR_7 B6 ⊢
  clear hu1
  refine (cm _).mono ?_; rintro e w1 ⟨rfl, x1⟩
  have fzR_8 : ∀ i, w1.frozen? ⟨(w.heap.size + 1), i, none⟩ = false := fun i => (x1.frozen (p := ⟨_, i, none⟩) R_5.1).trans (fzR_7 i)
  clear fzR_7
  have P_9 := P_4.on x1
  have R_10 := R_5.on x1
  have B11 := B6.trans (x1.mono B6.size)
  clear P_4 R_5 B6 x1
  clear cm
  have Lt := Lib.hid (show w.heap.size + 1 < w1.heap.size from R_10.1)
  have fzR_12 : ∀ i, (w1.alloc (.cells #[.int .u8 m0, .int .u8 m1, .int .u16 m2, .string m3, .string m4] 81)).frozen? ⟨(w.heap.size + 1), i, none⟩ = false := fun i => (((Below.refl w1.heap.size w1).alloc (Nat.le_refl _) (.cells #[.int .u8 m0, .int .u8 m1, .int .u16 m2, .string m3, .string m4] 81)).frozen (p := ⟨_, i, none⟩) R_10.1).trans (fzR_8 i)
  clear fzR_8
  have P_13 := P_9.past (o := (.cells #[.int .u8 m0, .int .u8 m1, .int .u16 m2, .string m3, .string m4] 81))
  have R_14 := R_10.past (o := (.cells #[.int .u8 m0, .int .u8 m1, .int .u16 m2, .string m3, .string m4] 81))
  have G_15 := Box5.make w1 (.int .u8 m0) (.int .u8 m1) (.int .u16 m2) (.string m3) (.string m4) 81
  have B16 := B11.alloc B11.size (.cells #[.int .u8 m0, .int .u8 m1, .int .u16 m2, .string m3, .string m4] 81)
  clear P_9 R_10 B11
  have ne1_ : ¬ w.heap.size + 1 = w1.heap.size := by have := Lt.out; omega
  have ne2_ : ¬ w1.heap.size = w.heap.size + 1 := by have := Lt.out; omega
  obtain ⟨_, g1_0, g1_1, g1_2, g1_3, g1_4⟩ := id G_15
  go_wp2_with fail
  refine (cq _).mono ?_; rintro e w2 ⟨rfl, x2⟩
  have fzR_17 : ∀ i, w2.frozen? ⟨(w.heap.size + 1), i, none⟩ = false := fun i => (x2.frozen (p := ⟨_, i, none⟩) R_14.1).trans (fzR_12 i)
  clear fzR_12
  have P_18 := P_13.on x2
  have R_19 := R_14.on x2
  have G_20 := G_15.on x2
  have B21 := B16.trans (x2.mono B16.size)
  clear g1_0 g1_1 g1_2 g1_3 g1_4 P_13 R_14 G_15 B16 x2
  clear cq
  obtain ⟨_, g2_0, g2_1, g2_2, g2_3, g2_4⟩ := id G_20
  go_wp2_with fail
  refine (ce _).mono ?_; rintro e w3 ⟨rfl, x3⟩
  have fzR_22 : ∀ i, w3.frozen? ⟨(w.heap.size + 1), i, none⟩ = false := fun i => (x3.frozen (p := ⟨_, i, none⟩) R_19.1).trans (fzR_17 i)
  clear fzR_17
  have P_23 := P_18.on x3
  have R_24 := R_19.on x3
  have G_25 := G_20.on x3
  have B26 := B21.trans (x3.mono B21.size)
  clear g2_0 g2_1 g2_2 g2_3 g2_4 P_18 R_19 G_20 B21 x3
  clear ce
  obtain ⟨_, p3_0, p3_1, p3_2, p3_3, p3_4, p3_5, p3_6, p3_7, p3_8⟩ := id P_23
  go_wp2_with fail
  refine ((seen8_ h0 h1 h3 h5 h6 h2 h7 L 1 3 0 0 _)).mono ?_; rintro e w4 ⟨rfl, x4⟩
  have fzR_27 : ∀ i, w4.frozen? ⟨(w.heap.size + 1), i, none⟩ = false := fun i => (x4.frozen (p := ⟨_, i, none⟩) R_24.1).trans (fzR_22 i)
  clear fzR_22
  have P_28 := P_23.on x4
  have R_29 := R_24.on x4
  have G_30 := G_25.on x4
  have B31 := B26.trans (x4.mono B26.size)
  clear p3_0 p3_1 p3_2 p3_3 p3_4 p3_5 p3_6 p3_7 p3_8 P_23 R_24 G_25 B26 x4
  clear P_28 G_30
  obtain ⟨_, r4_0, r4_1, r4_2, r4_3, r4_4, r4_5, r4_6, r4_7, r4_8⟩ := id R_29
  go_upto_region 13 with fail
  refine box9f_ (b := w.heap.size + 1) R_29.some B31 (Nat.le_succ _) fun z5 y5_0 y5_1 y5_2 y5_3 y5_4 y5_5 y5_6 y5_7 y5_8 B32 far sz fzz => ?_
  have R_33 : Box9 z5 (w.heap.size + 1) (.int .u8 1) (.int .u32 h5) (.int .u16 0) (.int .u32 h6) (.int .u16 0) (.int .i64 3) (.int .u8 0) (.bool false) (.int .u8 h3) := ⟨by rw [sz]; exact R_29.1, y5_0, y5_1, y5_2, y5_3, y5_4, y5_5, y5_6, y5_7, y5_8⟩
  have fzR_34 : ∀ i, z5.frozen? ⟨(w.heap.size + 1), i, none⟩ = false := fun i => (fzz _).trans (fzR_27 i)
  clear r4_0 r4_1 r4_2 r4_3 r4_4 r4_5 r4_6 r4_7 r4_8 y5_0 y5_1 y5_2 y5_3 y5_4 y5_5 y5_6 y5_7 y5_8 R_29 B31 fzR_27 far sz fzz
  obtain ⟨_, r5_0, r5_1, r5_2, r5_3, r5_4, r5_5, r5_6, r5_7, r5_8⟩ := id R_33
  go_wp2
  refine box9_ (b := w.heap.size + 1) R_33.some B32 (Nat.le_succ _) fun Z y0 y1 y2 y3 y4 y5 y6 y7 y8 BZ _ _ => ?_
  refine bodyPost_ret (v := .tuple #[.agg #[.int .u8 1, .int .u32 h5, .int .u16 0, .int .u32 h6, .int .u16 0, .int .i64 3, .int .u8 0, .bool false, .int .u8 h3], .int .i64 0]) (by simp [results, Tryd.results19, go_sem, y0, y1, y2, y3, y4, y5, y6, y7, y8]) rfl ?_
  exact ⟨rfl, BZ⟩
set_option maxHeartbeats 4000000 in
set_option maxRecDepth 100000 in
theorem message8_ask (h0 h1 h3 h5 h6 : Int) (h2 : Bool) (h7 L : ByteArray) (m0 m1 m2 : Int) (m3 m4 : ByteArray) (cm : ∀ u : World, Calls Tryd.prog 35 #[.string L] u fun e w' => e = .returned (.tuple #[.agg #[.int .u8 m0, .int .u8 m1, .int .u16 m2, .string m3, .string m4], .bool true]) ∧ Below u.heap.size u w') (cq : ∀ u : World, Calls Tryd.prog 36 #[.agg #[.int .u8 m0, .int .u8 m1, .int .u16 m2, .string m3, .string m4]] u fun e w' => e = .returned (.tuple #[.bool true, .bool true]) ∧ Below u.heap.size u w') (j : Int) (ci : ∀ u : World, Calls Tryd.prog 37 #[.agg #[.int .u8 m0, .int .u8 m1, .int .u16 m2, .string m3, .string m4]] u fun e w' => e = .returned (.int .u16 j) ∧ Below u.heap.size u w') (w : World) :
    Calls Tryd.prog 19 #[.agg #[.int .u8 h0, .int .u16 h1, .bool h2, .int .u8 h3, .int .u8 1, .int .u32 h5, .int .u32 h6, .string h7, .string L]] w fun e w' => e = .returned (.tuple #[.agg #[.int .u8 1, .int .u32 h5, .int .u16 j, .int .u32 h6, .int .u16 0, .int .i64 2, .int .u8 0, .bool true, .int .u8 h3], .int .i64 0]) ∧ Below w.heap.size w w' := by
  go_enter Tryd.func19, Tryd.ntmps19
  have B1 := Below.refl w.heap.size w
  go_wp2_with fail
  have P_2 := Box9.make w (.int .u8 h0) (.int .u16 h1) (.bool h2) (.int .u8 h3) (.int .u8 1) (.int .u32 h5) (.int .u32 h6) (.string h7) (.string L) 52
  have B3 := B1.alloc B1.size (.cells #[.int .u8 h0, .int .u16 h1, .bool h2, .int .u8 h3, .int .u8 1, .int .u32 h5, .int .u32 h6, .string h7, .string L] 52)
  clear B1
  have P_4 := P_2.past (o := (.cells #[.int .u8 0, .int .u32 0, .int .u16 0, .int .u32 0, .int .u16 0, .int .i64 0, .int .u8 0, .bool false, .int .u8 0] 31))
  have hs_ : (w.alloc (.cells #[.int .u8 h0, .int .u16 h1, .bool h2, .int .u8 h3, .int .u8 1, .int .u32 h5, .int .u32 h6, .string h7, .string L] 52)).heap.size = w.heap.size + 1 := by simp
  have R_5 := Box9.make (w.alloc (.cells #[.int .u8 h0, .int .u16 h1, .bool h2, .int .u8 h3, .int .u8 1, .int .u32 h5, .int .u32 h6, .string h7, .string L] 52)) (.int .u8 0) (.int .u32 0) (.int .u16 0) (.int .u32 0) (.int .u16 0) (.int .i64 0) (.int .u8 0) (.bool false) (.int .u8 0) 31
  rw [hs_] at R_5
  clear hs_
  have B6 := B3.alloc B3.size (.cells #[.int .u8 0, .int .u32 0, .int .u16 0, .int .u32 0, .int .u16 0, .int .i64 0, .int .u8 0, .bool false, .int .u8 0] 31)
  clear P_2 B3
  have fzR_7 : ∀ i, ((w.alloc (.cells #[.int .u8 h0, .int .u16 h1, .bool h2, .int .u8 h3, .int .u8 1, .int .u32 h5, .int .u32 h6, .string h7, .string L] 52)).alloc (.cells #[.int .u8 0, .int .u32 0, .int .u16 0, .int .u32 0, .int .u16 0, .int .i64 0, .int .u8 0, .bool false, .int .u8 0] 31)).frozen? ⟨(w.heap.size + 1), i, none⟩ = false := by intro i; simp [go_sem]
  obtain ⟨u1, hu1⟩ : ∃ x, x = (w.alloc (.cells #[.int .u8 h0, .int .u16 h1, .bool h2, .int .u8 h3, .int .u8 1, .int .u32 h5, .int .u32 h6, .string h7, .string L] 52)).alloc (.cells #[.int .u8 0, .int .u32 0, .int .u16 0, .int .u32 0, .int .u16 0, .int .i64 0, .int .u8 0, .bool false, .int .u8 0] 31) := ⟨_, rfl⟩
  rw [← hu1] at P_4 R_5 fzR_7 B6 ⊢
  clear hu1
  refine (cm _).mono ?_; rintro e w1 ⟨rfl, x1⟩
  have fzR_8 : ∀ i, w1.frozen? ⟨(w.heap.size + 1), i, none⟩ = false := fun i => (x1.frozen (p := ⟨_, i, none⟩) R_5.1).trans (fzR_7 i)
  clear fzR_7
  have P_9 := P_4.on x1
  have R_10 := R_5.on x1
  have B11 := B6.trans (x1.mono B6.size)
  clear P_4 R_5 B6 x1
  clear cm
  have Lt := Lib.hid (show w.heap.size + 1 < w1.heap.size from R_10.1)
  have fzR_12 : ∀ i, (w1.alloc (.cells #[.int .u8 m0, .int .u8 m1, .int .u16 m2, .string m3, .string m4] 81)).frozen? ⟨(w.heap.size + 1), i, none⟩ = false := fun i => (((Below.refl w1.heap.size w1).alloc (Nat.le_refl _) (.cells #[.int .u8 m0, .int .u8 m1, .int .u16 m2, .string m3, .string m4] 81)).frozen (p := ⟨_, i, none⟩) R_10.1).trans (fzR_8 i)
  clear fzR_8
  have P_13 := P_9.past (o := (.cells #[.int .u8 m0, .int .u8 m1, .int .u16 m2, .string m3, .string m4] 81))
  have R_14 := R_10.past (o := (.cells #[.int .u8 m0, .int .u8 m1, .int .u16 m2, .string m3, .string m4] 81))
  have G_15 := Box5.make w1 (.int .u8 m0) (.int .u8 m1) (.int .u16 m2) (.string m3) (.string m4) 81
  have B16 := B11.alloc B11.size (.cells #[.int .u8 m0, .int .u8 m1, .int .u16 m2, .string m3, .string m4] 81)
  clear P_9 R_10 B11
  have ne1_ : ¬ w.heap.size + 1 = w1.heap.size := by have := Lt.out; omega
  have ne2_ : ¬ w1.heap.size = w.heap.size + 1 := by have := Lt.out; omega
  obtain ⟨_, g1_0, g1_1, g1_2, g1_3, g1_4⟩ := id G_15
  go_wp2_with fail
  refine (cq _).mono ?_; rintro e w2 ⟨rfl, x2⟩
  have fzR_17 : ∀ i, w2.frozen? ⟨(w.heap.size + 1), i, none⟩ = false := fun i => (x2.frozen (p := ⟨_, i, none⟩) R_14.1).trans (fzR_12 i)
  clear fzR_12
  have P_18 := P_13.on x2
  have R_19 := R_14.on x2
  have G_20 := G_15.on x2
  have B21 := B16.trans (x2.mono B16.size)
  clear g1_0 g1_1 g1_2 g1_3 g1_4 P_13 R_14 G_15 B16 x2
  clear cq
  go_upto_region 7 with fail
  obtain ⟨zp, gp0, gp1, gp2, gp3, gp4, gp5, gp6, gp7, gp8⟩ := id P_18
  have Fp0 : ∀ x : Later w2.heap.size w2, x.u.cell? ⟨w.heap.size, 0, none⟩ = some (.int .u8 h0) := fun x => x.block zp gp0
  have Fp1 : ∀ x : Later w2.heap.size w2, x.u.cell? ⟨w.heap.size, 1, none⟩ = some (.int .u16 h1) := fun x => x.block zp gp1
  have Fp2 : ∀ x : Later w2.heap.size w2, x.u.cell? ⟨w.heap.size, 2, none⟩ = some (.bool h2) := fun x => x.block zp gp2
  have Fp3 : ∀ x : Later w2.heap.size w2, x.u.cell? ⟨w.heap.size, 3, none⟩ = some (.int .u8 h3) := fun x => x.block zp gp3
  have Fp4 : ∀ x : Later w2.heap.size w2, x.u.cell? ⟨w.heap.size, 4, none⟩ = some (.int .u8 1) := fun x => x.block zp gp4
  have Fp5 : ∀ x : Later w2.heap.size w2, x.u.cell? ⟨w.heap.size, 5, none⟩ = some (.int .u32 h5) := fun x => x.block zp gp5
  have Fp6 : ∀ x : Later w2.heap.size w2, x.u.cell? ⟨w.heap.size, 6, none⟩ = some (.int .u32 h6) := fun x => x.block zp gp6
  have Fp7 : ∀ x : Later w2.heap.size w2, x.u.cell? ⟨w.heap.size, 7, none⟩ = some (.string h7) := fun x => x.block zp gp7
  have Fp8 : ∀ x : Later w2.heap.size w2, x.u.cell? ⟨w.heap.size, 8, none⟩ = some (.string L) := fun x => x.block zp gp8
  clear gp0 gp1 gp2 gp3 gp4 gp5 gp6 gp7 gp8
  obtain ⟨zg, gg0, gg1, gg2, gg3, gg4⟩ := id G_20
  have Fg0 : ∀ x : Later w2.heap.size w2, x.u.cell? ⟨w1.heap.size, 0, none⟩ = some (.int .u8 m0) := fun x => x.block zg gg0
  have Fg1 : ∀ x : Later w2.heap.size w2, x.u.cell? ⟨w1.heap.size, 1, none⟩ = some (.int .u8 m1) := fun x => x.block zg gg1
  have Fg2 : ∀ x : Later w2.heap.size w2, x.u.cell? ⟨w1.heap.size, 2, none⟩ = some (.int .u16 m2) := fun x => x.block zg gg2
  have Fg3 : ∀ x : Later w2.heap.size w2, x.u.cell? ⟨w1.heap.size, 3, none⟩ = some (.string m3) := fun x => x.block zg gg3
  have Fg4 : ∀ x : Later w2.heap.size w2, x.u.cell? ⟨w1.heap.size, 4, none⟩ = some (.string m4) := fun x => x.block zg gg4
  clear gg0 gg1 gg2 gg3 gg4
  refine region_lead (B := w2.heap.size) 4 1 (by kernel_rfl) (by kernel_rfl) (by kernel_rfl) (by kernel_rfl) ?_
  simp only [List.take_succ_cons, List.take_zero]
  repeat (go_big_quiet_step (first
    | (go_at_call 37; exact later_of _ (Nat.le_refl _) (ci _))
    | (go_at_call 33; exact later_of _ (Nat.le_refl _) (seen8_ h0 h1 h3 h5 h6 h2 h7 L 1 2 j 0 _))))
  refine lead_end (by kernel_rfl) (by kernel_rfl) rfl fun w3 x3 G hG => ?_
  have fzR_22 : ∀ i, w3.frozen? ⟨(w.heap.size + 1), i, none⟩ = false := fun i => (x3.frozen (p := ⟨_, i, none⟩) R_19.1).trans (fzR_17 i)
  clear fzR_17
  have P_23 := P_18.on x3
  have R_24 := R_19.on x3
  have G_25 := G_20.on x3
  have B26 := B21.trans (x3.mono B21.size)
  clear Fp0 Fp1 Fp2 Fp3 Fp4 Fp5 Fp6 Fp7 Fp8 zp Fg0 Fg1 Fg2 Fg3 Fg4 zg P_18 R_19 G_20 B21 x3
  clear ci
  clear P_23 G_25
  obtain ⟨_, r2_0, r2_1, r2_2, r2_3, r2_4, r2_5, r2_6, r2_7, r2_8⟩ := id R_24
  go_simp
  refine hG.out _ _ ?_
  clear hG G
  refine box9f_ (b := w.heap.size + 1) R_24.some B26 (Nat.le_succ _) fun z4 y4_0 y4_1 y4_2 y4_3 y4_4 y4_5 y4_6 y4_7 y4_8 B27 far sz fzz => ?_
  have R_28 : Box9 z4 (w.heap.size + 1) (.int .u8 1) (.int .u32 h5) (.int .u16 j) (.int .u32 h6) (.int .u16 0) (.int .i64 2) (.int .u8 0) (.bool false) (.int .u8 h3) := ⟨by rw [sz]; exact R_24.1, y4_0, y4_1, y4_2, y4_3, y4_4, y4_5, y4_6, y4_7, y4_8⟩
  have fzR_29 : ∀ i, z4.frozen? ⟨(w.heap.size + 1), i, none⟩ = false := fun i => (fzz _).trans (fzR_22 i)
  clear r2_0 r2_1 r2_2 r2_3 r2_4 r2_5 r2_6 r2_7 r2_8 y4_0 y4_1 y4_2 y4_3 y4_4 y4_5 y4_6 y4_7 y4_8 R_24 B26 fzR_22 far sz fzz
  obtain ⟨_, r3_0, r3_1, r3_2, r3_3, r3_4, r3_5, r3_6, r3_7, r3_8⟩ := id R_28
  go_upto_region 13 with fail
  clear r3_0 r3_1 r3_2 r3_3 r3_4 r3_5 r3_6 r3_7 r3_8
  obtain ⟨_, r4_0, r4_1, r4_2, r4_3, r4_4, r4_5, r4_6, r4_7, r4_8⟩ := id R_28
  have B30 := (B27.setCell (p := ⟨(w.heap.size + 1), 7, none⟩) (Nat.le_succ _) (.bool true))
  have R_31 : Box9 (z4.setCell ⟨(w.heap.size + 1), 7, none⟩ (.bool true)) (w.heap.size + 1) (.int .u8 1) (.int .u32 h5) (.int .u16 j) (.int .u32 h6) (.int .u16 0) (.int .i64 2) (.int .u8 0) (.bool true) (.int .u8 h3) := ⟨by have := R_28.1; simpa using this, by simp [go_sem, r4_0, r4_1, r4_2, r4_3, r4_4, r4_5, r4_6, r4_7, r4_8], by simp [go_sem, r4_0, r4_1, r4_2, r4_3, r4_4, r4_5, r4_6, r4_7, r4_8], by simp [go_sem, r4_0, r4_1, r4_2, r4_3, r4_4, r4_5, r4_6, r4_7, r4_8], by simp [go_sem, r4_0, r4_1, r4_2, r4_3, r4_4, r4_5, r4_6, r4_7, r4_8], by simp [go_sem, r4_0, r4_1, r4_2, r4_3, r4_4, r4_5, r4_6, r4_7, r4_8], by simp [go_sem, r4_0, r4_1, r4_2, r4_3, r4_4, r4_5, r4_6, r4_7, r4_8], by simp [go_sem, r4_0, r4_1, r4_2, r4_3, r4_4, r4_5, r4_6, r4_7, r4_8], by simp [go_sem, r4_0, r4_1, r4_2, r4_3, r4_4, r4_5, r4_6, r4_7, r4_8], by simp [go_sem, r4_0, r4_1, r4_2, r4_3, r4_4, r4_5, r4_6, r4_7, r4_8]⟩
  have fzR_32 : ∀ i, (z4.setCell ⟨(w.heap.size + 1), 7, none⟩ (.bool true)).frozen? ⟨(w.heap.size + 1), i, none⟩ = false := by intro i; simp [fzR_29]
  clear r4_0 r4_1 r4_2 r4_3 r4_4 r4_5 r4_6 r4_7 r4_8 R_28 fzR_29 B27
  obtain ⟨u5, hu5⟩ : ∃ x, x = (z4.setCell ⟨(w.heap.size + 1), 7, none⟩ (.bool true)) := ⟨_, rfl⟩
  rw [← hu5] at R_31 fzR_32 B30 ⊢
  clear hu5
  obtain ⟨_, r5_0, r5_1, r5_2, r5_3, r5_4, r5_5, r5_6, r5_7, r5_8⟩ := id R_31
  go_wp2
  refine box9_ (b := w.heap.size + 1) R_31.some B30 (Nat.le_succ _) fun Z y0 y1 y2 y3 y4 y5 y6 y7 y8 BZ _ _ => ?_
  refine bodyPost_ret (v := .tuple #[.agg #[.int .u8 1, .int .u32 h5, .int .u16 j, .int .u32 h6, .int .u16 0, .int .i64 2, .int .u8 0, .bool true, .int .u8 h3], .int .i64 0]) (by simp [results, Tryd.results19, go_sem, y0, y1, y2, y3, y4, y5, y6, y7, y8]) rfl ?_
  exact ⟨rfl, BZ⟩
set_option maxHeartbeats 4000000 in
set_option maxRecDepth 100000 in
theorem message8_told (h0 h1 h3 h5 h6 : Int) (h2 : Bool) (h7 L : ByteArray) (m0 m1 m2 : Int) (m3 m4 : ByteArray) (cm : ∀ u : World, Calls Tryd.prog 35 #[.string L] u fun e w' => e = .returned (.tuple #[.agg #[.int .u8 m0, .int .u8 m1, .int .u16 m2, .string m3, .string m4], .bool true]) ∧ Below u.heap.size u w') (cq : ∀ u : World, Calls Tryd.prog 36 #[.agg #[.int .u8 m0, .int .u8 m1, .int .u16 m2, .string m3, .string m4]] u fun e w' => e = .returned (.tuple #[.bool false, .bool true]) ∧ Below u.heap.size u w') (j : Int) (ci : ∀ u : World, Calls Tryd.prog 37 #[.agg #[.int .u8 m0, .int .u8 m1, .int .u16 m2, .string m3, .string m4]] u fun e w' => e = .returned (.int .u16 j) ∧ Below u.heap.size u w') (w : World) :
    Calls Tryd.prog 19 #[.agg #[.int .u8 h0, .int .u16 h1, .bool h2, .int .u8 h3, .int .u8 1, .int .u32 h5, .int .u32 h6, .string h7, .string L]] w fun e w' => e = .returned (.tuple #[.agg #[.int .u8 1, .int .u32 h5, .int .u16 0, .int .u32 h6, .int .u16 j, .int .i64 2, .int .u8 0, .bool false, .int .u8 h3], .int .i64 0]) ∧ Below w.heap.size w w' := by
  go_enter Tryd.func19, Tryd.ntmps19
  have B1 := Below.refl w.heap.size w
  go_wp2_with fail
  have P_2 := Box9.make w (.int .u8 h0) (.int .u16 h1) (.bool h2) (.int .u8 h3) (.int .u8 1) (.int .u32 h5) (.int .u32 h6) (.string h7) (.string L) 52
  have B3 := B1.alloc B1.size (.cells #[.int .u8 h0, .int .u16 h1, .bool h2, .int .u8 h3, .int .u8 1, .int .u32 h5, .int .u32 h6, .string h7, .string L] 52)
  clear B1
  have P_4 := P_2.past (o := (.cells #[.int .u8 0, .int .u32 0, .int .u16 0, .int .u32 0, .int .u16 0, .int .i64 0, .int .u8 0, .bool false, .int .u8 0] 31))
  have hs_ : (w.alloc (.cells #[.int .u8 h0, .int .u16 h1, .bool h2, .int .u8 h3, .int .u8 1, .int .u32 h5, .int .u32 h6, .string h7, .string L] 52)).heap.size = w.heap.size + 1 := by simp
  have R_5 := Box9.make (w.alloc (.cells #[.int .u8 h0, .int .u16 h1, .bool h2, .int .u8 h3, .int .u8 1, .int .u32 h5, .int .u32 h6, .string h7, .string L] 52)) (.int .u8 0) (.int .u32 0) (.int .u16 0) (.int .u32 0) (.int .u16 0) (.int .i64 0) (.int .u8 0) (.bool false) (.int .u8 0) 31
  rw [hs_] at R_5
  clear hs_
  have B6 := B3.alloc B3.size (.cells #[.int .u8 0, .int .u32 0, .int .u16 0, .int .u32 0, .int .u16 0, .int .i64 0, .int .u8 0, .bool false, .int .u8 0] 31)
  clear P_2 B3
  have fzR_7 : ∀ i, ((w.alloc (.cells #[.int .u8 h0, .int .u16 h1, .bool h2, .int .u8 h3, .int .u8 1, .int .u32 h5, .int .u32 h6, .string h7, .string L] 52)).alloc (.cells #[.int .u8 0, .int .u32 0, .int .u16 0, .int .u32 0, .int .u16 0, .int .i64 0, .int .u8 0, .bool false, .int .u8 0] 31)).frozen? ⟨(w.heap.size + 1), i, none⟩ = false := by intro i; simp [go_sem]
  obtain ⟨u1, hu1⟩ : ∃ x, x = (w.alloc (.cells #[.int .u8 h0, .int .u16 h1, .bool h2, .int .u8 h3, .int .u8 1, .int .u32 h5, .int .u32 h6, .string h7, .string L] 52)).alloc (.cells #[.int .u8 0, .int .u32 0, .int .u16 0, .int .u32 0, .int .u16 0, .int .i64 0, .int .u8 0, .bool false, .int .u8 0] 31) := ⟨_, rfl⟩
  rw [← hu1] at P_4 R_5 fzR_7 B6 ⊢
  clear hu1
  refine (cm _).mono ?_; rintro e w1 ⟨rfl, x1⟩
  have fzR_8 : ∀ i, w1.frozen? ⟨(w.heap.size + 1), i, none⟩ = false := fun i => (x1.frozen (p := ⟨_, i, none⟩) R_5.1).trans (fzR_7 i)
  clear fzR_7
  have P_9 := P_4.on x1
  have R_10 := R_5.on x1
  have B11 := B6.trans (x1.mono B6.size)
  clear P_4 R_5 B6 x1
  clear cm
  have Lt := Lib.hid (show w.heap.size + 1 < w1.heap.size from R_10.1)
  have fzR_12 : ∀ i, (w1.alloc (.cells #[.int .u8 m0, .int .u8 m1, .int .u16 m2, .string m3, .string m4] 81)).frozen? ⟨(w.heap.size + 1), i, none⟩ = false := fun i => (((Below.refl w1.heap.size w1).alloc (Nat.le_refl _) (.cells #[.int .u8 m0, .int .u8 m1, .int .u16 m2, .string m3, .string m4] 81)).frozen (p := ⟨_, i, none⟩) R_10.1).trans (fzR_8 i)
  clear fzR_8
  have P_13 := P_9.past (o := (.cells #[.int .u8 m0, .int .u8 m1, .int .u16 m2, .string m3, .string m4] 81))
  have R_14 := R_10.past (o := (.cells #[.int .u8 m0, .int .u8 m1, .int .u16 m2, .string m3, .string m4] 81))
  have G_15 := Box5.make w1 (.int .u8 m0) (.int .u8 m1) (.int .u16 m2) (.string m3) (.string m4) 81
  have B16 := B11.alloc B11.size (.cells #[.int .u8 m0, .int .u8 m1, .int .u16 m2, .string m3, .string m4] 81)
  clear P_9 R_10 B11
  have ne1_ : ¬ w.heap.size + 1 = w1.heap.size := by have := Lt.out; omega
  have ne2_ : ¬ w1.heap.size = w.heap.size + 1 := by have := Lt.out; omega
  obtain ⟨_, g1_0, g1_1, g1_2, g1_3, g1_4⟩ := id G_15
  go_wp2_with fail
  refine (cq _).mono ?_; rintro e w2 ⟨rfl, x2⟩
  have fzR_17 : ∀ i, w2.frozen? ⟨(w.heap.size + 1), i, none⟩ = false := fun i => (x2.frozen (p := ⟨_, i, none⟩) R_14.1).trans (fzR_12 i)
  clear fzR_12
  have P_18 := P_13.on x2
  have R_19 := R_14.on x2
  have G_20 := G_15.on x2
  have B21 := B16.trans (x2.mono B16.size)
  clear g1_0 g1_1 g1_2 g1_3 g1_4 P_13 R_14 G_15 B16 x2
  clear cq
  go_upto_region 10 with fail
  obtain ⟨zp, gp0, gp1, gp2, gp3, gp4, gp5, gp6, gp7, gp8⟩ := id P_18
  have Fp0 : ∀ x : Later w2.heap.size w2, x.u.cell? ⟨w.heap.size, 0, none⟩ = some (.int .u8 h0) := fun x => x.block zp gp0
  have Fp1 : ∀ x : Later w2.heap.size w2, x.u.cell? ⟨w.heap.size, 1, none⟩ = some (.int .u16 h1) := fun x => x.block zp gp1
  have Fp2 : ∀ x : Later w2.heap.size w2, x.u.cell? ⟨w.heap.size, 2, none⟩ = some (.bool h2) := fun x => x.block zp gp2
  have Fp3 : ∀ x : Later w2.heap.size w2, x.u.cell? ⟨w.heap.size, 3, none⟩ = some (.int .u8 h3) := fun x => x.block zp gp3
  have Fp4 : ∀ x : Later w2.heap.size w2, x.u.cell? ⟨w.heap.size, 4, none⟩ = some (.int .u8 1) := fun x => x.block zp gp4
  have Fp5 : ∀ x : Later w2.heap.size w2, x.u.cell? ⟨w.heap.size, 5, none⟩ = some (.int .u32 h5) := fun x => x.block zp gp5
  have Fp6 : ∀ x : Later w2.heap.size w2, x.u.cell? ⟨w.heap.size, 6, none⟩ = some (.int .u32 h6) := fun x => x.block zp gp6
  have Fp7 : ∀ x : Later w2.heap.size w2, x.u.cell? ⟨w.heap.size, 7, none⟩ = some (.string h7) := fun x => x.block zp gp7
  have Fp8 : ∀ x : Later w2.heap.size w2, x.u.cell? ⟨w.heap.size, 8, none⟩ = some (.string L) := fun x => x.block zp gp8
  clear gp0 gp1 gp2 gp3 gp4 gp5 gp6 gp7 gp8
  obtain ⟨zg, gg0, gg1, gg2, gg3, gg4⟩ := id G_20
  have Fg0 : ∀ x : Later w2.heap.size w2, x.u.cell? ⟨w1.heap.size, 0, none⟩ = some (.int .u8 m0) := fun x => x.block zg gg0
  have Fg1 : ∀ x : Later w2.heap.size w2, x.u.cell? ⟨w1.heap.size, 1, none⟩ = some (.int .u8 m1) := fun x => x.block zg gg1
  have Fg2 : ∀ x : Later w2.heap.size w2, x.u.cell? ⟨w1.heap.size, 2, none⟩ = some (.int .u16 m2) := fun x => x.block zg gg2
  have Fg3 : ∀ x : Later w2.heap.size w2, x.u.cell? ⟨w1.heap.size, 3, none⟩ = some (.string m3) := fun x => x.block zg gg3
  have Fg4 : ∀ x : Later w2.heap.size w2, x.u.cell? ⟨w1.heap.size, 4, none⟩ = some (.string m4) := fun x => x.block zg gg4
  clear gg0 gg1 gg2 gg3 gg4
  refine region_lead (B := w2.heap.size) 4 1 (by kernel_rfl) (by kernel_rfl) (by kernel_rfl) (by kernel_rfl) ?_
  simp only [List.take_succ_cons, List.take_zero]
  repeat (go_big_quiet_step (first
    | (go_at_call 37; exact later_of _ (Nat.le_refl _) (ci _))
    | (go_at_call 33; exact later_of _ (Nat.le_refl _) (seen8_ h0 h1 h3 h5 h6 h2 h7 L 1 2 0 j _))))
  refine lead_end (by kernel_rfl) (by kernel_rfl) rfl fun w3 x3 G hG => ?_
  have fzR_22 : ∀ i, w3.frozen? ⟨(w.heap.size + 1), i, none⟩ = false := fun i => (x3.frozen (p := ⟨_, i, none⟩) R_19.1).trans (fzR_17 i)
  clear fzR_17
  have P_23 := P_18.on x3
  have R_24 := R_19.on x3
  have G_25 := G_20.on x3
  have B26 := B21.trans (x3.mono B21.size)
  clear Fp0 Fp1 Fp2 Fp3 Fp4 Fp5 Fp6 Fp7 Fp8 zp Fg0 Fg1 Fg2 Fg3 Fg4 zg P_18 R_19 G_20 B21 x3
  clear ci
  clear P_23 G_25
  obtain ⟨_, r2_0, r2_1, r2_2, r2_3, r2_4, r2_5, r2_6, r2_7, r2_8⟩ := id R_24
  go_simp
  refine hG.out _ _ ?_
  clear hG G
  refine box9f_ (b := w.heap.size + 1) R_24.some B26 (Nat.le_succ _) fun z4 y4_0 y4_1 y4_2 y4_3 y4_4 y4_5 y4_6 y4_7 y4_8 B27 far sz fzz => ?_
  have R_28 : Box9 z4 (w.heap.size + 1) (.int .u8 1) (.int .u32 h5) (.int .u16 0) (.int .u32 h6) (.int .u16 j) (.int .i64 2) (.int .u8 0) (.bool false) (.int .u8 h3) := ⟨by rw [sz]; exact R_24.1, y4_0, y4_1, y4_2, y4_3, y4_4, y4_5, y4_6, y4_7, y4_8⟩
  have fzR_29 : ∀ i, z4.frozen? ⟨(w.heap.size + 1), i, none⟩ = false := fun i => (fzz _).trans (fzR_22 i)
  clear r2_0 r2_1 r2_2 r2_3 r2_4 r2_5 r2_6 r2_7 r2_8 y4_0 y4_1 y4_2 y4_3 y4_4 y4_5 y4_6 y4_7 y4_8 R_24 B26 fzR_22 far sz fzz
  obtain ⟨_, r3_0, r3_1, r3_2, r3_3, r3_4, r3_5, r3_6, r3_7, r3_8⟩ := id R_28
  go_wp2
  refine box9_ (b := w.heap.size + 1) R_28.some B27 (Nat.le_succ _) fun Z y0 y1 y2 y3 y4 y5 y6 y7 y8 BZ _ _ => ?_
  refine bodyPost_ret (v := .tuple #[.agg #[.int .u8 1, .int .u32 h5, .int .u16 0, .int .u32 h6, .int .u16 j, .int .i64 2, .int .u8 0, .bool false, .int .u8 h3], .int .i64 0]) (by simp [results, Tryd.results19, go_sem, y0, y1, y2, y3, y4, y5, y6, y7, y8]) rfl ?_
  exact ⟨rfl, BZ⟩
end Go.Proofs.YtidkgnanfhdhdaaDoor

namespace Go.Proofs.YtidkgnanfhdhdaaDoor
set_option linter.unusedVariables false
set_option linter.unusedSimpArgs false
open Go.ChangeShapes Go.WideShapes Go.ChangeAt Go.RowKit Go.PlainAid
attribute [local go_sem ↓] Go.wp_at_zero Go.wp_at_succ
set_option maxHeartbeats 4000000 in
set_option maxRecDepth 100000 in
theorem of8_refused (s : ByteArray) (h0 h1 h3 h5 h6 : Int) (h2 : Bool) (h7 L : ByteArray) (q : Int) (e1 : (q != 0) = true) (cp : ∀ u : World, Calls Tryd.prog 16 #[.string s] u fun e w' => e = .returned (.tuple #[.agg #[.int .u8 0, .int .u16 0, .bool false, .int .u8 0, .int .u8 0, .int .u32 0, .int .u32 0, .string ⟨#[]⟩], .string ⟨#[]⟩, .int .i64 q]) ∧ Below u.heap.size u w') (w : World) :
    Calls Tryd.prog 7 #[.string s] w fun e w' => e = .returned (.tuple #[.agg #[.int .u8 0, .int .u32 0, .int .u16 0, .int .u32 0, .int .u16 0, .int .i64 0, .int .u8 0, .bool false, .int .u8 0], .int .i64 q]) ∧ Below w.heap.size w w' := by
  go_enter Tryd.func7, Tryd.ntmps7
  have B1 := Below.refl w.heap.size w
  go_wp2_with fail
  have R_2 := Box9.make w (.int .u8 0) (.int .u32 0) (.int .u16 0) (.int .u32 0) (.int .u16 0) (.int .i64 0) (.int .u8 0) (.bool false) (.int .u8 0) 31
  have B3 := B1.alloc B1.size (.cells #[.int .u8 0, .int .u32 0, .int .u16 0, .int .u32 0, .int .u16 0, .int .i64 0, .int .u8 0, .bool false, .int .u8 0] 31)
  clear B1
  have fzR_4 : ∀ i, (w.alloc (.cells #[.int .u8 0, .int .u32 0, .int .u16 0, .int .u32 0, .int .u16 0, .int .i64 0, .int .u8 0, .bool false, .int .u8 0] 31)).frozen? ⟨w.heap.size, i, none⟩ = false := by intro i; simp [go_sem]
  refine (cp _).mono ?_; rintro e w1 ⟨rfl, x1⟩
  have fzR_5 : ∀ i, w1.frozen? ⟨w.heap.size, i, none⟩ = false := fun i => (x1.frozen (p := ⟨_, i, none⟩) R_2.1).trans (fzR_4 i)
  clear fzR_4
  have R_6 := R_2.on x1
  have B7 := B3.trans (x1.mono B3.size)
  clear R_2 B3 x1
  clear cp
  have fzR_8 : ∀ i, (w1.alloc (.cells #[.int .u8 0, .int .u16 0, .bool false, .int .u8 0, .int .u8 0, .int .u32 0, .int .u32 0, .string ⟨#[]⟩] 48)).frozen? ⟨w.heap.size, i, none⟩ = false := fun i => (((Below.refl w1.heap.size w1).alloc (Nat.le_refl _) (.cells #[.int .u8 0, .int .u16 0, .bool false, .int .u8 0, .int .u8 0, .int .u32 0, .int .u32 0, .string ⟨#[]⟩] 48)).frozen (p := ⟨_, i, none⟩) R_6.1).trans (fzR_5 i)
  clear fzR_5
  have R_9 := R_6.past (o := (.cells #[.int .u8 0, .int .u16 0, .bool false, .int .u8 0, .int .u8 0, .int .u32 0, .int .u32 0, .string ⟨#[]⟩] 48))
  have H_10 := Box8.make w1 (.int .u8 0) (.int .u16 0) (.bool false) (.int .u8 0) (.int .u8 0) (.int .u32 0) (.int .u32 0) (.string ⟨#[]⟩) 48
  have B11 := B7.alloc B7.size (.cells #[.int .u8 0, .int .u16 0, .bool false, .int .u8 0, .int .u8 0, .int .u32 0, .int .u32 0, .string ⟨#[]⟩] 48)
  clear R_6 B7
  obtain ⟨_, r1_0, r1_1, r1_2, r1_3, r1_4, r1_5, r1_6, r1_7, r1_8⟩ := id R_9
  go_wp2
  refine box9_ (b := w.heap.size) R_9.some B11 (Nat.le_refl _) fun Z y0 y1 y2 y3 y4 y5 y6 y7 y8 BZ _ _ => ?_
  refine bodyPost_ret (v := .tuple #[.agg #[.int .u8 0, .int .u32 0, .int .u16 0, .int .u32 0, .int .u16 0, .int .i64 0, .int .u8 0, .bool false, .int .u8 0], .int .i64 q]) (by simp [results, Tryd.results7, go_sem, y0, y1, y2, y3, y4, y5, y6, y7, y8]) rfl ?_
  exact ⟨rfl, BZ⟩
set_option maxHeartbeats 4000000 in
set_option maxRecDepth 100000 in
theorem of8_none (s : ByteArray) (h0 h1 h3 h5 h6 : Int) (h2 : Bool) (h7 L : ByteArray) (pr : Int) (e6 : (pr == 6) = false) (e17 : (pr == 17) = false) (e1 : (pr == 1) = false) (cp : ∀ u : World, Calls Tryd.prog 16 #[.string s] u fun e w' => e = .returned (.tuple #[.agg #[.int .u8 h0, .int .u16 h1, .bool h2, .int .u8 h3, .int .u8 pr, .int .u32 h5, .int .u32 h6, .string h7], .string L, .int .i64 0]) ∧ Below u.heap.size u w') (w : World) :
    Calls Tryd.prog 7 #[.string s] w fun e w' => e = .returned (.tuple #[.agg #[.int .u8 0, .int .u32 0, .int .u16 0, .int .u32 0, .int .u16 0, .int .i64 0, .int .u8 0, .bool false, .int .u8 0], .int .i64 6]) ∧ Below w.heap.size w w' := by
  go_enter Tryd.func7, Tryd.ntmps7
  have B1 := Below.refl w.heap.size w
  go_wp2_with fail
  have R_2 := Box9.make w (.int .u8 0) (.int .u32 0) (.int .u16 0) (.int .u32 0) (.int .u16 0) (.int .i64 0) (.int .u8 0) (.bool false) (.int .u8 0) 31
  have B3 := B1.alloc B1.size (.cells #[.int .u8 0, .int .u32 0, .int .u16 0, .int .u32 0, .int .u16 0, .int .i64 0, .int .u8 0, .bool false, .int .u8 0] 31)
  clear B1
  have fzR_4 : ∀ i, (w.alloc (.cells #[.int .u8 0, .int .u32 0, .int .u16 0, .int .u32 0, .int .u16 0, .int .i64 0, .int .u8 0, .bool false, .int .u8 0] 31)).frozen? ⟨w.heap.size, i, none⟩ = false := by intro i; simp [go_sem]
  refine (cp _).mono ?_; rintro e w1 ⟨rfl, x1⟩
  have fzR_5 : ∀ i, w1.frozen? ⟨w.heap.size, i, none⟩ = false := fun i => (x1.frozen (p := ⟨_, i, none⟩) R_2.1).trans (fzR_4 i)
  clear fzR_4
  have R_6 := R_2.on x1
  have B7 := B3.trans (x1.mono B3.size)
  clear R_2 B3 x1
  clear cp
  have fzR_8 : ∀ i, (w1.alloc (.cells #[.int .u8 h0, .int .u16 h1, .bool h2, .int .u8 h3, .int .u8 pr, .int .u32 h5, .int .u32 h6, .string h7] 48)).frozen? ⟨w.heap.size, i, none⟩ = false := fun i => (((Below.refl w1.heap.size w1).alloc (Nat.le_refl _) (.cells #[.int .u8 h0, .int .u16 h1, .bool h2, .int .u8 h3, .int .u8 pr, .int .u32 h5, .int .u32 h6, .string h7] 48)).frozen (p := ⟨_, i, none⟩) R_6.1).trans (fzR_5 i)
  clear fzR_5
  have R_9 := R_6.past (o := (.cells #[.int .u8 h0, .int .u16 h1, .bool h2, .int .u8 h3, .int .u8 pr, .int .u32 h5, .int .u32 h6, .string h7] 48))
  have H_10 := Box8.make w1 (.int .u8 h0) (.int .u16 h1) (.bool h2) (.int .u8 h3) (.int .u8 pr) (.int .u32 h5) (.int .u32 h6) (.string h7) 48
  have B11 := B7.alloc B7.size (.cells #[.int .u8 h0, .int .u16 h1, .bool h2, .int .u8 h3, .int .u8 pr, .int .u32 h5, .int .u32 h6, .string h7] 48)
  clear R_6 B7
  obtain ⟨_, h1_0, h1_1, h1_2, h1_3, h1_4, h1_5, h1_6, h1_7⟩ := id H_10
  have fzR_12 : ∀ i, ((w1.alloc (.cells #[.int .u8 h0, .int .u16 h1, .bool h2, .int .u8 h3, .int .u8 pr, .int .u32 h5, .int .u32 h6, .string h7] 48)).alloc (.cells #[.int .u8 h0, .int .u16 h1, .bool h2, .int .u8 h3, .int .u8 pr, .int .u32 h5, .int .u32 h6, .string h7, .string L] 52)).frozen? ⟨w.heap.size, i, none⟩ = false := fun i => (((Below.refl (w1.alloc (.cells #[.int .u8 h0, .int .u16 h1, .bool h2, .int .u8 h3, .int .u8 pr, .int .u32 h5, .int .u32 h6, .string h7] 48)).heap.size (w1.alloc (.cells #[.int .u8 h0, .int .u16 h1, .bool h2, .int .u8 h3, .int .u8 pr, .int .u32 h5, .int .u32 h6, .string h7] 48))).alloc (Nat.le_refl _) (.cells #[.int .u8 h0, .int .u16 h1, .bool h2, .int .u8 h3, .int .u8 pr, .int .u32 h5, .int .u32 h6, .string h7, .string L] 52)).frozen (p := ⟨_, i, none⟩) R_9.1).trans (fzR_8 i)
  clear fzR_8
  have R_13 := R_9.past (o := (.cells #[.int .u8 h0, .int .u16 h1, .bool h2, .int .u8 h3, .int .u8 pr, .int .u32 h5, .int .u32 h6, .string h7, .string L] 52))
  have H_14 := H_10.past (o := (.cells #[.int .u8 h0, .int .u16 h1, .bool h2, .int .u8 h3, .int .u8 pr, .int .u32 h5, .int .u32 h6, .string h7, .string L] 52))
  have hs_ : (w1.alloc (.cells #[.int .u8 h0, .int .u16 h1, .bool h2, .int .u8 h3, .int .u8 pr, .int .u32 h5, .int .u32 h6, .string h7] 48)).heap.size = w1.heap.size + 1 := by simp
  have P_15 := Box9.make (w1.alloc (.cells #[.int .u8 h0, .int .u16 h1, .bool h2, .int .u8 h3, .int .u8 pr, .int .u32 h5, .int .u32 h6, .string h7] 48)) (.int .u8 h0) (.int .u16 h1) (.bool h2) (.int .u8 h3) (.int .u8 pr) (.int .u32 h5) (.int .u32 h6) (.string h7) (.string L) 52
  rw [hs_] at P_15
  clear hs_
  have B16 := B11.alloc B11.size (.cells #[.int .u8 h0, .int .u16 h1, .bool h2, .int .u8 h3, .int .u8 pr, .int .u32 h5, .int .u32 h6, .string h7, .string L] 52)
  clear R_9 H_10 B11
  obtain ⟨_, r2_0, r2_1, r2_2, r2_3, r2_4, r2_5, r2_6, r2_7, r2_8⟩ := id R_13
  obtain ⟨_, p3_0, p3_1, p3_2, p3_3, p3_4, p3_5, p3_6, p3_7, p3_8⟩ := id P_15
  go_wp2
  refine box9_ (b := w.heap.size) R_13.some B16 (Nat.le_refl _) fun Z y0 y1 y2 y3 y4 y5 y6 y7 y8 BZ _ _ => ?_
  refine bodyPost_ret (v := .tuple #[.agg #[.int .u8 0, .int .u32 0, .int .u16 0, .int .u32 0, .int .u16 0, .int .i64 0, .int .u8 0, .bool false, .int .u8 0], .int .i64 6]) (by simp [results, Tryd.results7, go_sem, y0, y1, y2, y3, y4, y5, y6, y7, y8]) rfl ?_
  exact ⟨rfl, BZ⟩
set_option maxHeartbeats 4000000 in
set_option maxRecDepth 100000 in
theorem of8_segment (s : ByteArray) (h0 h1 h3 h5 h6 : Int) (h2 : Bool) (h7 L : ByteArray) (x0 x1 x2 x3 x4 x5 x6 x8 r : Int) (x7 : Bool) (cp : ∀ u : World, Calls Tryd.prog 16 #[.string s] u fun e w' => e = .returned (.tuple #[.agg #[.int .u8 h0, .int .u16 h1, .bool h2, .int .u8 h3, .int .u8 6, .int .u32 h5, .int .u32 h6, .string h7], .string L, .int .i64 0]) ∧ Below u.heap.size u w') (cs : ∀ u : World, Calls Tryd.prog 17 #[.agg #[.int .u8 h0, .int .u16 h1, .bool h2, .int .u8 h3, .int .u8 6, .int .u32 h5, .int .u32 h6, .string h7, .string L]] u fun e w' => e = .returned (.tuple #[.agg #[.int .u8 x0, .int .u32 x1, .int .u16 x2, .int .u32 x3, .int .u16 x4, .int .i64 x5, .int .u8 x6, .bool x7, .int .u8 x8], .int .i64 r]) ∧ Below u.heap.size u w') (w : World) :
    Calls Tryd.prog 7 #[.string s] w fun e w' => e = .returned (.tuple #[.agg #[.int .u8 x0, .int .u32 x1, .int .u16 x2, .int .u32 x3, .int .u16 x4, .int .i64 x5, .int .u8 x6, .bool x7, .int .u8 x8], .int .i64 r]) ∧ Below w.heap.size w w' := by
  go_enter Tryd.func7, Tryd.ntmps7
  have B1 := Below.refl w.heap.size w
  go_wp2_with fail
  have R_2 := Box9.make w (.int .u8 0) (.int .u32 0) (.int .u16 0) (.int .u32 0) (.int .u16 0) (.int .i64 0) (.int .u8 0) (.bool false) (.int .u8 0) 31
  have B3 := B1.alloc B1.size (.cells #[.int .u8 0, .int .u32 0, .int .u16 0, .int .u32 0, .int .u16 0, .int .i64 0, .int .u8 0, .bool false, .int .u8 0] 31)
  clear B1
  have fzR_4 : ∀ i, (w.alloc (.cells #[.int .u8 0, .int .u32 0, .int .u16 0, .int .u32 0, .int .u16 0, .int .i64 0, .int .u8 0, .bool false, .int .u8 0] 31)).frozen? ⟨w.heap.size, i, none⟩ = false := by intro i; simp [go_sem]
  refine (cp _).mono ?_; rintro e w1 ⟨rfl, x1⟩
  have fzR_5 : ∀ i, w1.frozen? ⟨w.heap.size, i, none⟩ = false := fun i => (x1.frozen (p := ⟨_, i, none⟩) R_2.1).trans (fzR_4 i)
  clear fzR_4
  have R_6 := R_2.on x1
  have B7 := B3.trans (x1.mono B3.size)
  clear R_2 B3 x1
  clear cp
  have fzR_8 : ∀ i, (w1.alloc (.cells #[.int .u8 h0, .int .u16 h1, .bool h2, .int .u8 h3, .int .u8 6, .int .u32 h5, .int .u32 h6, .string h7] 48)).frozen? ⟨w.heap.size, i, none⟩ = false := fun i => (((Below.refl w1.heap.size w1).alloc (Nat.le_refl _) (.cells #[.int .u8 h0, .int .u16 h1, .bool h2, .int .u8 h3, .int .u8 6, .int .u32 h5, .int .u32 h6, .string h7] 48)).frozen (p := ⟨_, i, none⟩) R_6.1).trans (fzR_5 i)
  clear fzR_5
  have R_9 := R_6.past (o := (.cells #[.int .u8 h0, .int .u16 h1, .bool h2, .int .u8 h3, .int .u8 6, .int .u32 h5, .int .u32 h6, .string h7] 48))
  have H_10 := Box8.make w1 (.int .u8 h0) (.int .u16 h1) (.bool h2) (.int .u8 h3) (.int .u8 6) (.int .u32 h5) (.int .u32 h6) (.string h7) 48
  have B11 := B7.alloc B7.size (.cells #[.int .u8 h0, .int .u16 h1, .bool h2, .int .u8 h3, .int .u8 6, .int .u32 h5, .int .u32 h6, .string h7] 48)
  clear R_6 B7
  obtain ⟨_, h1_0, h1_1, h1_2, h1_3, h1_4, h1_5, h1_6, h1_7⟩ := id H_10
  have fzR_12 : ∀ i, ((w1.alloc (.cells #[.int .u8 h0, .int .u16 h1, .bool h2, .int .u8 h3, .int .u8 6, .int .u32 h5, .int .u32 h6, .string h7] 48)).alloc (.cells #[.int .u8 h0, .int .u16 h1, .bool h2, .int .u8 h3, .int .u8 6, .int .u32 h5, .int .u32 h6, .string h7, .string L] 52)).frozen? ⟨w.heap.size, i, none⟩ = false := fun i => (((Below.refl (w1.alloc (.cells #[.int .u8 h0, .int .u16 h1, .bool h2, .int .u8 h3, .int .u8 6, .int .u32 h5, .int .u32 h6, .string h7] 48)).heap.size (w1.alloc (.cells #[.int .u8 h0, .int .u16 h1, .bool h2, .int .u8 h3, .int .u8 6, .int .u32 h5, .int .u32 h6, .string h7] 48))).alloc (Nat.le_refl _) (.cells #[.int .u8 h0, .int .u16 h1, .bool h2, .int .u8 h3, .int .u8 6, .int .u32 h5, .int .u32 h6, .string h7, .string L] 52)).frozen (p := ⟨_, i, none⟩) R_9.1).trans (fzR_8 i)
  clear fzR_8
  have R_13 := R_9.past (o := (.cells #[.int .u8 h0, .int .u16 h1, .bool h2, .int .u8 h3, .int .u8 6, .int .u32 h5, .int .u32 h6, .string h7, .string L] 52))
  have H_14 := H_10.past (o := (.cells #[.int .u8 h0, .int .u16 h1, .bool h2, .int .u8 h3, .int .u8 6, .int .u32 h5, .int .u32 h6, .string h7, .string L] 52))
  have hs_ : (w1.alloc (.cells #[.int .u8 h0, .int .u16 h1, .bool h2, .int .u8 h3, .int .u8 6, .int .u32 h5, .int .u32 h6, .string h7] 48)).heap.size = w1.heap.size + 1 := by simp
  have P_15 := Box9.make (w1.alloc (.cells #[.int .u8 h0, .int .u16 h1, .bool h2, .int .u8 h3, .int .u8 6, .int .u32 h5, .int .u32 h6, .string h7] 48)) (.int .u8 h0) (.int .u16 h1) (.bool h2) (.int .u8 h3) (.int .u8 6) (.int .u32 h5) (.int .u32 h6) (.string h7) (.string L) 52
  rw [hs_] at P_15
  clear hs_
  have B16 := B11.alloc B11.size (.cells #[.int .u8 h0, .int .u16 h1, .bool h2, .int .u8 h3, .int .u8 6, .int .u32 h5, .int .u32 h6, .string h7, .string L] 52)
  clear R_9 H_10 B11
  obtain ⟨_, p2_0, p2_1, p2_2, p2_3, p2_4, p2_5, p2_6, p2_7, p2_8⟩ := id P_15
  go_wp2_with fail
  refine (cs _).mono ?_; rintro e w2 ⟨rfl, x2⟩
  have fzR_17 : ∀ i, w2.frozen? ⟨w.heap.size, i, none⟩ = false := fun i => (x2.frozen (p := ⟨_, i, none⟩) R_13.1).trans (fzR_12 i)
  clear fzR_12
  have R_18 := R_13.on x2
  have H_19 := H_14.on x2
  have P_20 := P_15.on x2
  have B21 := B16.trans (x2.mono B16.size)
  clear h1_0 h1_1 h1_2 h1_3 h1_4 h1_5 h1_6 h1_7 p2_0 p2_1 p2_2 p2_3 p2_4 p2_5 p2_6 p2_7 p2_8 R_13 H_14 P_15 B16 x2
  clear cs
  obtain ⟨_, r3_0, r3_1, r3_2, r3_3, r3_4, r3_5, r3_6, r3_7, r3_8⟩ := id R_18
  go_wp2
  refine box9_ (b := w.heap.size) R_18.some B21 (Nat.le_refl _) fun Z y0 y1 y2 y3 y4 y5 y6 y7 y8 BZ _ _ => ?_
  refine bodyPost_ret (v := .tuple #[.agg #[.int .u8 x0, .int .u32 x1, .int .u16 x2, .int .u32 x3, .int .u16 x4, .int .i64 x5, .int .u8 x6, .bool x7, .int .u8 x8], .int .i64 r]) (by simp [results, Tryd.results7, go_sem, y0, y1, y2, y3, y4, y5, y6, y7, y8]) rfl ?_
  exact ⟨rfl, BZ⟩
set_option maxHeartbeats 4000000 in
set_option maxRecDepth 100000 in
theorem of8_datagram (s : ByteArray) (h0 h1 h3 h5 h6 : Int) (h2 : Bool) (h7 L : ByteArray) (x0 x1 x2 x3 x4 x5 x6 x8 r : Int) (x7 : Bool) (cp : ∀ u : World, Calls Tryd.prog 16 #[.string s] u fun e w' => e = .returned (.tuple #[.agg #[.int .u8 h0, .int .u16 h1, .bool h2, .int .u8 h3, .int .u8 17, .int .u32 h5, .int .u32 h6, .string h7], .string L, .int .i64 0]) ∧ Below u.heap.size u w') (cs : ∀ u : World, Calls Tryd.prog 18 #[.agg #[.int .u8 h0, .int .u16 h1, .bool h2, .int .u8 h3, .int .u8 17, .int .u32 h5, .int .u32 h6, .string h7, .string L]] u fun e w' => e = .returned (.tuple #[.agg #[.int .u8 x0, .int .u32 x1, .int .u16 x2, .int .u32 x3, .int .u16 x4, .int .i64 x5, .int .u8 x6, .bool x7, .int .u8 x8], .int .i64 r]) ∧ Below u.heap.size u w') (w : World) :
    Calls Tryd.prog 7 #[.string s] w fun e w' => e = .returned (.tuple #[.agg #[.int .u8 x0, .int .u32 x1, .int .u16 x2, .int .u32 x3, .int .u16 x4, .int .i64 x5, .int .u8 x6, .bool x7, .int .u8 x8], .int .i64 r]) ∧ Below w.heap.size w w' := by
  go_enter Tryd.func7, Tryd.ntmps7
  have B1 := Below.refl w.heap.size w
  go_wp2_with fail
  have R_2 := Box9.make w (.int .u8 0) (.int .u32 0) (.int .u16 0) (.int .u32 0) (.int .u16 0) (.int .i64 0) (.int .u8 0) (.bool false) (.int .u8 0) 31
  have B3 := B1.alloc B1.size (.cells #[.int .u8 0, .int .u32 0, .int .u16 0, .int .u32 0, .int .u16 0, .int .i64 0, .int .u8 0, .bool false, .int .u8 0] 31)
  clear B1
  have fzR_4 : ∀ i, (w.alloc (.cells #[.int .u8 0, .int .u32 0, .int .u16 0, .int .u32 0, .int .u16 0, .int .i64 0, .int .u8 0, .bool false, .int .u8 0] 31)).frozen? ⟨w.heap.size, i, none⟩ = false := by intro i; simp [go_sem]
  refine (cp _).mono ?_; rintro e w1 ⟨rfl, x1⟩
  have fzR_5 : ∀ i, w1.frozen? ⟨w.heap.size, i, none⟩ = false := fun i => (x1.frozen (p := ⟨_, i, none⟩) R_2.1).trans (fzR_4 i)
  clear fzR_4
  have R_6 := R_2.on x1
  have B7 := B3.trans (x1.mono B3.size)
  clear R_2 B3 x1
  clear cp
  have fzR_8 : ∀ i, (w1.alloc (.cells #[.int .u8 h0, .int .u16 h1, .bool h2, .int .u8 h3, .int .u8 17, .int .u32 h5, .int .u32 h6, .string h7] 48)).frozen? ⟨w.heap.size, i, none⟩ = false := fun i => (((Below.refl w1.heap.size w1).alloc (Nat.le_refl _) (.cells #[.int .u8 h0, .int .u16 h1, .bool h2, .int .u8 h3, .int .u8 17, .int .u32 h5, .int .u32 h6, .string h7] 48)).frozen (p := ⟨_, i, none⟩) R_6.1).trans (fzR_5 i)
  clear fzR_5
  have R_9 := R_6.past (o := (.cells #[.int .u8 h0, .int .u16 h1, .bool h2, .int .u8 h3, .int .u8 17, .int .u32 h5, .int .u32 h6, .string h7] 48))
  have H_10 := Box8.make w1 (.int .u8 h0) (.int .u16 h1) (.bool h2) (.int .u8 h3) (.int .u8 17) (.int .u32 h5) (.int .u32 h6) (.string h7) 48
  have B11 := B7.alloc B7.size (.cells #[.int .u8 h0, .int .u16 h1, .bool h2, .int .u8 h3, .int .u8 17, .int .u32 h5, .int .u32 h6, .string h7] 48)
  clear R_6 B7
  obtain ⟨_, h1_0, h1_1, h1_2, h1_3, h1_4, h1_5, h1_6, h1_7⟩ := id H_10
  have fzR_12 : ∀ i, ((w1.alloc (.cells #[.int .u8 h0, .int .u16 h1, .bool h2, .int .u8 h3, .int .u8 17, .int .u32 h5, .int .u32 h6, .string h7] 48)).alloc (.cells #[.int .u8 h0, .int .u16 h1, .bool h2, .int .u8 h3, .int .u8 17, .int .u32 h5, .int .u32 h6, .string h7, .string L] 52)).frozen? ⟨w.heap.size, i, none⟩ = false := fun i => (((Below.refl (w1.alloc (.cells #[.int .u8 h0, .int .u16 h1, .bool h2, .int .u8 h3, .int .u8 17, .int .u32 h5, .int .u32 h6, .string h7] 48)).heap.size (w1.alloc (.cells #[.int .u8 h0, .int .u16 h1, .bool h2, .int .u8 h3, .int .u8 17, .int .u32 h5, .int .u32 h6, .string h7] 48))).alloc (Nat.le_refl _) (.cells #[.int .u8 h0, .int .u16 h1, .bool h2, .int .u8 h3, .int .u8 17, .int .u32 h5, .int .u32 h6, .string h7, .string L] 52)).frozen (p := ⟨_, i, none⟩) R_9.1).trans (fzR_8 i)
  clear fzR_8
  have R_13 := R_9.past (o := (.cells #[.int .u8 h0, .int .u16 h1, .bool h2, .int .u8 h3, .int .u8 17, .int .u32 h5, .int .u32 h6, .string h7, .string L] 52))
  have H_14 := H_10.past (o := (.cells #[.int .u8 h0, .int .u16 h1, .bool h2, .int .u8 h3, .int .u8 17, .int .u32 h5, .int .u32 h6, .string h7, .string L] 52))
  have hs_ : (w1.alloc (.cells #[.int .u8 h0, .int .u16 h1, .bool h2, .int .u8 h3, .int .u8 17, .int .u32 h5, .int .u32 h6, .string h7] 48)).heap.size = w1.heap.size + 1 := by simp
  have P_15 := Box9.make (w1.alloc (.cells #[.int .u8 h0, .int .u16 h1, .bool h2, .int .u8 h3, .int .u8 17, .int .u32 h5, .int .u32 h6, .string h7] 48)) (.int .u8 h0) (.int .u16 h1) (.bool h2) (.int .u8 h3) (.int .u8 17) (.int .u32 h5) (.int .u32 h6) (.string h7) (.string L) 52
  rw [hs_] at P_15
  clear hs_
  have B16 := B11.alloc B11.size (.cells #[.int .u8 h0, .int .u16 h1, .bool h2, .int .u8 h3, .int .u8 17, .int .u32 h5, .int .u32 h6, .string h7, .string L] 52)
  clear R_9 H_10 B11
  obtain ⟨_, p2_0, p2_1, p2_2, p2_3, p2_4, p2_5, p2_6, p2_7, p2_8⟩ := id P_15
  go_wp2_with fail
  refine (cs _).mono ?_; rintro e w2 ⟨rfl, x2⟩
  have fzR_17 : ∀ i, w2.frozen? ⟨w.heap.size, i, none⟩ = false := fun i => (x2.frozen (p := ⟨_, i, none⟩) R_13.1).trans (fzR_12 i)
  clear fzR_12
  have R_18 := R_13.on x2
  have H_19 := H_14.on x2
  have P_20 := P_15.on x2
  have B21 := B16.trans (x2.mono B16.size)
  clear h1_0 h1_1 h1_2 h1_3 h1_4 h1_5 h1_6 h1_7 p2_0 p2_1 p2_2 p2_3 p2_4 p2_5 p2_6 p2_7 p2_8 R_13 H_14 P_15 B16 x2
  clear cs
  obtain ⟨_, r3_0, r3_1, r3_2, r3_3, r3_4, r3_5, r3_6, r3_7, r3_8⟩ := id R_18
  go_wp2
  refine box9_ (b := w.heap.size) R_18.some B21 (Nat.le_refl _) fun Z y0 y1 y2 y3 y4 y5 y6 y7 y8 BZ _ _ => ?_
  refine bodyPost_ret (v := .tuple #[.agg #[.int .u8 x0, .int .u32 x1, .int .u16 x2, .int .u32 x3, .int .u16 x4, .int .i64 x5, .int .u8 x6, .bool x7, .int .u8 x8], .int .i64 r]) (by simp [results, Tryd.results7, go_sem, y0, y1, y2, y3, y4, y5, y6, y7, y8]) rfl ?_
  exact ⟨rfl, BZ⟩
set_option maxHeartbeats 4000000 in
set_option maxRecDepth 100000 in
theorem of8_message (s : ByteArray) (h0 h1 h3 h5 h6 : Int) (h2 : Bool) (h7 L : ByteArray) (x0 x1 x2 x3 x4 x5 x6 x8 r : Int) (x7 : Bool) (cp : ∀ u : World, Calls Tryd.prog 16 #[.string s] u fun e w' => e = .returned (.tuple #[.agg #[.int .u8 h0, .int .u16 h1, .bool h2, .int .u8 h3, .int .u8 1, .int .u32 h5, .int .u32 h6, .string h7], .string L, .int .i64 0]) ∧ Below u.heap.size u w') (cs : ∀ u : World, Calls Tryd.prog 19 #[.agg #[.int .u8 h0, .int .u16 h1, .bool h2, .int .u8 h3, .int .u8 1, .int .u32 h5, .int .u32 h6, .string h7, .string L]] u fun e w' => e = .returned (.tuple #[.agg #[.int .u8 x0, .int .u32 x1, .int .u16 x2, .int .u32 x3, .int .u16 x4, .int .i64 x5, .int .u8 x6, .bool x7, .int .u8 x8], .int .i64 r]) ∧ Below u.heap.size u w') (w : World) :
    Calls Tryd.prog 7 #[.string s] w fun e w' => e = .returned (.tuple #[.agg #[.int .u8 x0, .int .u32 x1, .int .u16 x2, .int .u32 x3, .int .u16 x4, .int .i64 x5, .int .u8 x6, .bool x7, .int .u8 x8], .int .i64 r]) ∧ Below w.heap.size w w' := by
  go_enter Tryd.func7, Tryd.ntmps7
  have B1 := Below.refl w.heap.size w
  go_wp2_with fail
  have R_2 := Box9.make w (.int .u8 0) (.int .u32 0) (.int .u16 0) (.int .u32 0) (.int .u16 0) (.int .i64 0) (.int .u8 0) (.bool false) (.int .u8 0) 31
  have B3 := B1.alloc B1.size (.cells #[.int .u8 0, .int .u32 0, .int .u16 0, .int .u32 0, .int .u16 0, .int .i64 0, .int .u8 0, .bool false, .int .u8 0] 31)
  clear B1
  have fzR_4 : ∀ i, (w.alloc (.cells #[.int .u8 0, .int .u32 0, .int .u16 0, .int .u32 0, .int .u16 0, .int .i64 0, .int .u8 0, .bool false, .int .u8 0] 31)).frozen? ⟨w.heap.size, i, none⟩ = false := by intro i; simp [go_sem]
  refine (cp _).mono ?_; rintro e w1 ⟨rfl, x1⟩
  have fzR_5 : ∀ i, w1.frozen? ⟨w.heap.size, i, none⟩ = false := fun i => (x1.frozen (p := ⟨_, i, none⟩) R_2.1).trans (fzR_4 i)
  clear fzR_4
  have R_6 := R_2.on x1
  have B7 := B3.trans (x1.mono B3.size)
  clear R_2 B3 x1
  clear cp
  have fzR_8 : ∀ i, (w1.alloc (.cells #[.int .u8 h0, .int .u16 h1, .bool h2, .int .u8 h3, .int .u8 1, .int .u32 h5, .int .u32 h6, .string h7] 48)).frozen? ⟨w.heap.size, i, none⟩ = false := fun i => (((Below.refl w1.heap.size w1).alloc (Nat.le_refl _) (.cells #[.int .u8 h0, .int .u16 h1, .bool h2, .int .u8 h3, .int .u8 1, .int .u32 h5, .int .u32 h6, .string h7] 48)).frozen (p := ⟨_, i, none⟩) R_6.1).trans (fzR_5 i)
  clear fzR_5
  have R_9 := R_6.past (o := (.cells #[.int .u8 h0, .int .u16 h1, .bool h2, .int .u8 h3, .int .u8 1, .int .u32 h5, .int .u32 h6, .string h7] 48))
  have H_10 := Box8.make w1 (.int .u8 h0) (.int .u16 h1) (.bool h2) (.int .u8 h3) (.int .u8 1) (.int .u32 h5) (.int .u32 h6) (.string h7) 48
  have B11 := B7.alloc B7.size (.cells #[.int .u8 h0, .int .u16 h1, .bool h2, .int .u8 h3, .int .u8 1, .int .u32 h5, .int .u32 h6, .string h7] 48)
  clear R_6 B7
  obtain ⟨_, h1_0, h1_1, h1_2, h1_3, h1_4, h1_5, h1_6, h1_7⟩ := id H_10
  have fzR_12 : ∀ i, ((w1.alloc (.cells #[.int .u8 h0, .int .u16 h1, .bool h2, .int .u8 h3, .int .u8 1, .int .u32 h5, .int .u32 h6, .string h7] 48)).alloc (.cells #[.int .u8 h0, .int .u16 h1, .bool h2, .int .u8 h3, .int .u8 1, .int .u32 h5, .int .u32 h6, .string h7, .string L] 52)).frozen? ⟨w.heap.size, i, none⟩ = false := fun i => (((Below.refl (w1.alloc (.cells #[.int .u8 h0, .int .u16 h1, .bool h2, .int .u8 h3, .int .u8 1, .int .u32 h5, .int .u32 h6, .string h7] 48)).heap.size (w1.alloc (.cells #[.int .u8 h0, .int .u16 h1, .bool h2, .int .u8 h3, .int .u8 1, .int .u32 h5, .int .u32 h6, .string h7] 48))).alloc (Nat.le_refl _) (.cells #[.int .u8 h0, .int .u16 h1, .bool h2, .int .u8 h3, .int .u8 1, .int .u32 h5, .int .u32 h6, .string h7, .string L] 52)).frozen (p := ⟨_, i, none⟩) R_9.1).trans (fzR_8 i)
  clear fzR_8
  have R_13 := R_9.past (o := (.cells #[.int .u8 h0, .int .u16 h1, .bool h2, .int .u8 h3, .int .u8 1, .int .u32 h5, .int .u32 h6, .string h7, .string L] 52))
  have H_14 := H_10.past (o := (.cells #[.int .u8 h0, .int .u16 h1, .bool h2, .int .u8 h3, .int .u8 1, .int .u32 h5, .int .u32 h6, .string h7, .string L] 52))
  have hs_ : (w1.alloc (.cells #[.int .u8 h0, .int .u16 h1, .bool h2, .int .u8 h3, .int .u8 1, .int .u32 h5, .int .u32 h6, .string h7] 48)).heap.size = w1.heap.size + 1 := by simp
  have P_15 := Box9.make (w1.alloc (.cells #[.int .u8 h0, .int .u16 h1, .bool h2, .int .u8 h3, .int .u8 1, .int .u32 h5, .int .u32 h6, .string h7] 48)) (.int .u8 h0) (.int .u16 h1) (.bool h2) (.int .u8 h3) (.int .u8 1) (.int .u32 h5) (.int .u32 h6) (.string h7) (.string L) 52
  rw [hs_] at P_15
  clear hs_
  have B16 := B11.alloc B11.size (.cells #[.int .u8 h0, .int .u16 h1, .bool h2, .int .u8 h3, .int .u8 1, .int .u32 h5, .int .u32 h6, .string h7, .string L] 52)
  clear R_9 H_10 B11
  obtain ⟨_, p2_0, p2_1, p2_2, p2_3, p2_4, p2_5, p2_6, p2_7, p2_8⟩ := id P_15
  go_wp2_with fail
  refine (cs _).mono ?_; rintro e w2 ⟨rfl, x2⟩
  have fzR_17 : ∀ i, w2.frozen? ⟨w.heap.size, i, none⟩ = false := fun i => (x2.frozen (p := ⟨_, i, none⟩) R_13.1).trans (fzR_12 i)
  clear fzR_12
  have R_18 := R_13.on x2
  have H_19 := H_14.on x2
  have P_20 := P_15.on x2
  have B21 := B16.trans (x2.mono B16.size)
  clear h1_0 h1_1 h1_2 h1_3 h1_4 h1_5 h1_6 h1_7 p2_0 p2_1 p2_2 p2_3 p2_4 p2_5 p2_6 p2_7 p2_8 R_13 H_14 P_15 B16 x2
  clear cs
  obtain ⟨_, r3_0, r3_1, r3_2, r3_3, r3_4, r3_5, r3_6, r3_7, r3_8⟩ := id R_18
  go_wp2
  refine box9_ (b := w.heap.size) R_18.some B21 (Nat.le_refl _) fun Z y0 y1 y2 y3 y4 y5 y6 y7 y8 BZ _ _ => ?_
  refine bodyPost_ret (v := .tuple #[.agg #[.int .u8 x0, .int .u32 x1, .int .u16 x2, .int .u32 x3, .int .u16 x4, .int .i64 x5, .int .u8 x6, .bool x7, .int .u8 x8], .int .i64 r]) (by simp [results, Tryd.results7, go_sem, y0, y1, y2, y3, y4, y5, y6, y7, y8]) rfl ?_
  exact ⟨rfl, BZ⟩
set_option maxHeartbeats 4000000 in
set_option maxRecDepth 100000 in
theorem of8_ (s : ByteArray) (w : World) (hs : s.size ≤ 1000000) :
    Calls Tryd.prog 7 #[.string s] w fun e w' => e = .returned (.tuple #[.agg #[.int .u8 (sI s (bt s 9)), .int .u32 (sI s (g32 s 12)), .int .u16 (sI s (oM (bt s 9) (pP s))), .int .u32 (sI s (g32 s 16)), .int .u16 (sI s (oN (bt s 9) (pP s))), .int .i64 (sI s (oK (bt s 9) (pP s))), .int .u8 (sI s (oF (bt s 9) (pP s))), .bool (sB s (oA (bt s 9) (pP s))), .int .u8 (sI s (bt s 8))], .int .i64 (seenR s)]) ∧ Below w.heap.size w w' := by
  have cp := fun u => ipParse_ s u (by unfold maxLen; omega)
  by_cases hr : pR s = 0
  rotate_left
  · have hR : seenR s = pR s := by unfold seenR; rw [if_neg hr]
    obtain ⟨n1, n2⟩ := s_no (s := s) (by rw [hR]; exact hr)
    rw [n1, n1, n1, n1, n1, n1, n1, n1, n2, hR]
    obtain ⟨y1, y2, y3, y4⟩ := p_no hr
    rw [y1, y1, y1, y1, y1, y1, y2, y3, y4] at cp
    have e1 : (pR s != 0) = true := by simpa using hr
    exact of8_refused s 0 0 0 0 0 false ⟨#[]⟩ ⟨#[]⟩ (pR s) e1 cp w
  have hR : seenR s = oR (bt s 9) (pP s) := by unfold seenR; rw [if_pos hr]
  have y4 := p_yes hr
  obtain ⟨y1, y2, y3, y4⟩ := y4
  rw [y1, y1, y1, y1, y1, y1, hr] at cp
  have hL : (pP s).size ≤ 1000000 := by rw [y4, ByteArray.size_extract]; omega
  have z : (∀ v, sI s v = if oR (bt s 9) (pP s) = 0 then v else 0) ∧ (∀ v, sB s v = if oR (bt s 9) (pP s) = 0 then v else false) := ⟨fun v => by unfold sI; rw [hR], fun v => by unfold sB; rw [hR]⟩
  obtain ⟨z1, z2⟩ := z
  rw [z1, z1, z1, z1, z1, z1, z1, z1, z2, hR]
  generalize bt s 1 = h0 at *
  generalize g16 s 4 = h1 at *
  generalize pF s = h2 at *
  generalize bt s 8 = h3 at *
  generalize bt s 9 = pr at *
  generalize g32 s 12 = h5 at *
  generalize g32 s 16 = h6 at *
  generalize pO s = h7 at *
  generalize pP s = L at *
  clear z1 z2 hR hr y1 y2 y3 y4
  by_cases h_6 : pr = 6
  · subst h_6
    have cm := fun u => tcpParse_ L u hL
    by_cases hk : tOk L = true
    · have o1 : oR 6 L = 0 := by unfold oR; rw [if_pos rfl, if_pos hk]
      have o2 : oM 6 L = g16 L 0 := by unfold oM; rw [if_neg (by decide)]
      have o3 : oN 6 L = g16 L 2 := by unfold oN; rw [if_neg (by decide)]
      have o5 : oF 6 L = bt L 13 := by unfold oF; rw [if_pos rfl]
      have o6 : oA 6 L = false := by unfold oA; simp
      obtain ⟨_, _, _, y1, y2, y3⟩ := tOk_yes hk
      rw [y1, y1, y1, y1, y1, y1, y1, y1, y1, hk] at cm
      by_cases hb : bits .and .u8 (bt L 13) 23 = 2
      · have o4 : oK 6 L = 1 := by unfold oK; rw [if_neg (by decide), if_pos ⟨rfl, hb⟩]
        rw [o1, o2, o3, o4, o5, o6]
        simp only [if_true]
        exact of8_segment s h0 h1 h3 h5 h6 h2 h7 L _ _ _ _ _ _ _ _ _ _ cp (fun u => segment8_first h0 h1 h3 h5 h6 h2 h7 L _ _ _ _ _ _ _ _ _ _ _ cm (by rw [hb]; rfl) u) w
      · have o4 : oK 6 L = 2 := by unfold oK; rw [if_neg (by decide), if_neg (fun h => hb h.2)]
        rw [o1, o2, o3, o4, o5, o6]
        simp only [if_true]
        exact of8_segment s h0 h1 h3 h5 h6 h2 h7 L _ _ _ _ _ _ _ _ _ _ cp (fun u => segment8_flow h0 h1 h3 h5 h6 h2 h7 L _ _ _ _ _ _ _ _ _ _ _ cm (by simpa using hb) u) w
    · have hk2 : tOk L = false := by simpa using hk
      rw [show oR 6 L = 7 by unfold oR; rw [if_pos rfl, if_neg hk]]
      simp only [show ¬ (7 : Int) = 0 by omega, if_false]
      obtain ⟨y1, y2, y3⟩ := tOk_no hk2
      rw [y1, y1, y1, y1, y1, y1, y1, y1, y1, y2, y3, hk2] at cm
      exact of8_segment s h0 h1 h3 h5 h6 h2 h7 L _ _ _ _ _ _ _ _ _ _ cp (fun u => segment8_bad h0 h1 h3 h5 h6 h2 h7 L cm u) w
  by_cases h_17 : pr = 17
  · subst h_17
    have cm := fun u => udpParse_ L u hL
    by_cases hk : uOk L = true
    · have o1 : oR 17 L = 0 := by unfold oR; rw [if_neg (by decide), if_pos rfl, if_pos hk]
      have o2 : oM 17 L = g16 L 0 := by unfold oM; rw [if_neg (by decide)]
      have o3 : oN 17 L = g16 L 2 := by unfold oN; rw [if_neg (by decide)]
      have o4 : oK 17 L = 2 := by unfold oK; rw [if_neg (by decide), if_neg (fun h => absurd h.1 (by decide))]
      have o5 : oF 17 L = 0 := by unfold oF; rw [if_neg (by decide)]
      have o6 : oA 17 L = false := by unfold oA; simp
      obtain ⟨_, _, y1, y2⟩ := uOk_yes hk
      rw [y1, y1, y1, y1, hk] at cm
      rw [o1, o2, o3, o4, o5, o6]
      simp only [if_true]
      exact of8_datagram s h0 h1 h3 h5 h6 h2 h7 L _ _ _ _ _ _ _ _ _ _ cp (fun u => datagram8_ok h0 h1 h3 h5 h6 h2 h7 L _ _ _ _ _ cm u) w
    · have hk2 : uOk L = false := by simpa using hk
      rw [show oR 17 L = 7 by unfold oR; rw [if_neg (by decide), if_pos rfl, if_neg hk]]
      simp only [show ¬ (7 : Int) = 0 by omega, if_false]
      obtain ⟨y1, y2⟩ := uOk_no hk2
      rw [y1, y1, y1, y1, y2, hk2] at cm
      exact of8_datagram s h0 h1 h3 h5 h6 h2 h7 L _ _ _ _ _ _ _ _ _ _ cp (fun u => datagram8_bad h0 h1 h3 h5 h6 h2 h7 L cm u) w
  by_cases h_1 : pr = 1
  rotate_left
  · have e6 : (pr == 6) = false := by simpa using h_6
    have e17 : (pr == 17) = false := by simpa using h_17
    have e1 : (pr == 1) = false := by simpa using h_1
    rw [show oR pr L = 6 by unfold oR; rw [if_neg h_6, if_neg h_17, if_neg h_1]]
    simp only [show ¬ (6 : Int) = 0 by omega, if_false]
    exact of8_none s h0 h1 h3 h5 h6 h2 h7 L pr e6 e17 e1 cp w
  subst h_1
  have cm := fun u => icmpParse_ L u hL
  by_cases hk : mOk L = true
  rotate_left
  · have hk2 : mOk L = false := by simpa using hk
    rw [show oR 1 L = 7 by unfold oR; rw [if_neg (by omega), if_neg (by omega), if_pos rfl, if_neg hk]]
    simp only [show ¬ (7 : Int) = 0 by omega, if_false]
    obtain ⟨y1, y2, y3⟩ := mOk_no hk2
    rw [y1, y1, y1, y2, y3, hk2] at cm
    exact of8_message s h0 h1 h3 h5 h6 h2 h7 L _ _ _ _ _ _ _ _ _ _ cp (fun u => message8_bad h0 h1 h3 h5 h6 h2 h7 L cm u) w
  obtain ⟨_, y1, y2, y3⟩ := mOk_yes hk
  have cq := fun u => icmpQuery_ (bt L 0) (bt L 1) (g16 L 2) (mR L) (mD L) u (bt_nonneg L 0) (bt_le L 0) (bt_nonneg L 1) (bt_le L 1)
  have ce := fun u => icmpError_ (bt L 0) (bt L 1) (g16 L 2) (mR L) (mD L) u (bt_nonneg L 0) (bt_le L 0) (bt_nonneg L 1) (bt_le L 1)
  have hz : (mR L).size ≤ 1000000 := by rw [y2, ByteArray.size_extract]; omega
  have ci := fun u => icmpID_ (bt L 0) (bt L 1) (g16 L 2) (mR L) (mD L) u hz
  have hsub := @q_sub (bt L 0) (bt L 1)
  rw [y1, y1, y1, hk] at cm
  have o1 : oR 1 L = if (qIs (bt L 0) (bt L 1) || erM (bt L 0)) = true then 0 else 6 := by unfold oR; rw [if_neg (by omega), if_neg (by omega), if_pos rfl, if_pos hk]
  have o2 : oM 1 L = if qAsk (bt L 0) (bt L 1) = true then idM (mR L) else 0 := by unfold oM; rw [if_pos rfl]
  have o3 : oN 1 L = if (qIs (bt L 0) (bt L 1) && !qAsk (bt L 0) (bt L 1)) = true then idM (mR L) else 0 := by unfold oN; rw [if_pos rfl]
  have o4 : oK 1 L = if qIs (bt L 0) (bt L 1) = true then 2 else 3 := by unfold oK; rw [if_pos rfl]
  have o5 : oF 1 L = 0 := by unfold oF; rw [if_neg (by omega)]
  have o6 : oA 1 L = qAsk (bt L 0) (bt L 1) := by unfold oA; simp
  rw [o1, o2, o3, o4, o5, o6]
  clear o1 o2 o3 o4 o5 o6
  generalize qAsk (bt L 0) (bt L 1) = qa at *
  generalize qIs (bt L 0) (bt L 1) = qi at *
  generalize erM (bt L 0) = em at *
  generalize idM (mR L) = j at *
  cases qi
  · have hqa : qa = false := by cases qa; rfl; exact absurd (hsub rfl) (by decide)
    subst hqa
    cases em
    · simp only [Bool.or_false, Bool.false_eq_true, if_false, show ¬ (6 : Int) = 0 by omega]
      exact of8_message s h0 h1 h3 h5 h6 h2 h7 L _ _ _ _ _ _ _ _ _ _ cp (fun u => message8_odd h0 h1 h3 h5 h6 h2 h7 L _ _ _ _ _ cm cq ce u) w
    · simp only [Bool.or_true, Bool.false_and, Bool.false_eq_true, if_true, if_false]
      exact of8_message s h0 h1 h3 h5 h6 h2 h7 L _ _ _ _ _ _ _ _ _ _ cp (fun u => message8_err h0 h1 h3 h5 h6 h2 h7 L _ _ _ _ _ cm cq ce u) w
  · cases qa
    · simp only [Bool.true_or, Bool.not_false, Bool.and_self, Bool.false_eq_true, if_true, if_false]
      exact of8_message s h0 h1 h3 h5 h6 h2 h7 L _ _ _ _ _ _ _ _ _ _ cp (fun u => message8_told h0 h1 h3 h5 h6 h2 h7 L _ _ _ _ _ cm cq j ci u) w
    · simp only [Bool.true_or, Bool.not_true, Bool.and_false, Bool.false_eq_true, if_true, if_false]
      exact of8_message s h0 h1 h3 h5 h6 h2 h7 L _ _ _ _ _ _ _ _ _ _ cp (fun u => message8_ask h0 h1 h3 h5 h6 h2 h7 L _ _ _ _ _ cm cq j ci u) w
end Go.Proofs.YtidkgnanfhdhdaaDoor

namespace Go.Proofs.YtidkgnanfhdhdaaDoor
set_option linter.unusedVariables false
set_option linter.unusedSimpArgs false
open Go.ChangeShapes Go.WideShapes Go.ChangeAt Go.RowKit Go.PlainAid
attribute [local go_sem ↓] Go.wp_at_zero Go.wp_at_succ
/-- A box of 5 cells that is written whole: its cells, and its marks. -/
theorem box5f_ {W0 W : World} {b n : Nat} {v0 v1 v2 v3 v4 : Value} {M : World → Prop} (h : ∀ j, j < 5 → (W.cell? ⟨b, j, none⟩).isSome = true) (hb : Below n W0 W) (hn : n ≤ b)
    (k : ∀ X : World, X.cell? ⟨b, 0, none⟩ = some v0 → X.cell? ⟨b, 1, none⟩ = some v1 → X.cell? ⟨b, 2, none⟩ = some v2 → X.cell? ⟨b, 3, none⟩ = some v3 → X.cell? ⟨b, 4, none⟩ = some v4 → Below n W0 X → (∀ a : Addr, ¬ b = a.block → X.cell? a = W.cell? a) → X.heap.size = W.heap.size → (∀ a : Addr, X.frozen? a = W.frozen? a) → M X) :
    M (((((W.setCell ⟨b, 0, none⟩ v0).setCell ⟨b, 1, none⟩ v1).setCell ⟨b, 2, none⟩ v2).setCell ⟨b, 3, none⟩ v3).setCell ⟨b, 4, none⟩ v4) := by
  have f : ∀ a : Addr, (((((W.setCell ⟨b, 0, none⟩ v0).setCell ⟨b, 1, none⟩ v1).setCell ⟨b, 2, none⟩ v2).setCell ⟨b, 3, none⟩ v3).setCell ⟨b, 4, none⟩ v4).frozen? a = W.frozen? a := by intro a; simp
  have key := box5_ (W0 := W0) (W := W) (b := b) (n := n) (v0 := v0) (v1 := v1) (v2 := v2) (v3 := v3) (v4 := v4) (M := fun X => (∀ a : Addr, X.frozen? a = W.frozen? a) → M X) h hb hn k
  exact key f
theorem nm_some {f : List UInt8} {m n : Nat} (h : tmay (nmN f : Nat) m n = true) : tprot f = some (nmN f) := by
  have h3 := tmay_three h
  unfold nmN at h3 ⊢
  cases e : tprot f with
  | none => rw [e] at h3; simp at h3
  | some p => rfl
theorem par_yes {l f r x s d y : _} {a m b n : Nat} (hc : cut1 32 l = (f, r, x)) (hc2 : cut1 32 r = (s, d, y)) (h1 : pointV s = some (a, m)) (h2 : pointV d = some (b, n)) (h : tmay (nmN f : Nat) m n = true) : Hid (tupP l = nmN f ∧ tupA l = a ∧ tupM l = m ∧ tupB l = b ∧ tupN l = n ∧ tupE l = 0) := by
  refine tup_some ?_
  rw [← tupC_eq]
  unfold tupC
  rw [hc]
  simp only
  rw [hc2]
  simp only
  unfold tupMid
  rw [nm_some h, h1, h2]
  simp only
  rw [if_pos h]
theorem par_no {l f r x s d y : _} (hc : cut1 32 l = (f, r, x)) (hc2 : cut1 32 r = (s, d, y)) (h : ¬ (pointE s = 0 ∧ pointE d = 0 ∧ tmay (nmN f : Nat) (pointN s : Nat) (pointN d : Nat) = true)) : Hid (tupP l = 0 ∧ tupA l = 0 ∧ tupM l = 0 ∧ tupB l = 0 ∧ tupN l = 0 ∧ tupE l = 3) := by
  refine tup_none ?_
  cases e : tupR l with
  | none => rfl
  | some t =>
    exfalso
    obtain ⟨p, a, m, b, n⟩ := t
    rw [← tupC_eq] at e
    unfold tupC at e
    rw [hc] at e
    simp only at e
    rw [hc2] at e
    simp only at e
    rw [tupMid_iff] at e
    obtain ⟨hm, hx, g1, g2⟩ := e
    obtain ⟨_, v1, v2⟩ := point_val ((pointV_iff _ _ _).2 g1)
    obtain ⟨_, v3, v4⟩ := point_val ((pointV_iff _ _ _).2 g2)
    refine h ⟨v2, v4, ?_⟩
    rw [v1, v3, nm_hit (tmay_three hm) hx.symm]
    exact hm
attribute [local go_sem ↓] Go.wp_at_zero Go.wp_at_succ
set_option maxHeartbeats 8000000 in
set_option maxRecDepth 100000 in
theorem parse8_ (l : List UInt8) (w : World) (hl : l.length ≤ 1000000) :
    Calls Tryd.prog 11 #[.string (str l)] w fun e w' => e = .returned (.tuple #[.agg #[.int .u8 (tupP l : Nat), .int .u32 (tupA l : Nat), .int .u16 (tupM l : Nat), .int .u32 (tupB l : Nat), .int .u16 (tupN l : Nat)], .int .i64 (tupE l)]) ∧ Below w.heap.size w w' := by
  obtain ⟨f, r, x, hc⟩ : ∃ f r x, cut1 32 l = (f, r, x) := ⟨_, _, _, rfl⟩
  obtain ⟨s, d, y, hc2⟩ : ∃ s d y, cut1 32 r = (s, d, y) := ⟨_, _, _, rfl⟩
  have hcl := cut1_len 32 l
  have hcl2 := cut1_len 32 r
  have c1 := fun w => cut_ l 32 w (by unfold maxLen; omega)
  have c2 := fun w => cut_ r 32 w (by rw [hc] at hcl; simp only at hcl; unfold maxLen; omega)
  rw [hc] at hcl c1
  rw [hc2] at hcl2 c2
  simp only at hcl hcl2 c1 c2
  have c3 := fun w => point_ s w (by unfold maxLen; omega)
  have c4 := fun w => point_ d w (by unfold maxLen; omega)
  have cn := fun w => named8_ f w
  have cm := fun w => may8_ (nmN f : Nat) (pointA s : Nat) (pointN s : Nat) (pointA d : Nat) (pointN d : Nat) w
  clear hcl hcl2 hl
  by_cases hgood : pointE s = 0 ∧ pointE d = 0 ∧ tmay (nmN f : Nat) (pointN s : Nat) (pointN d : Nat) = true
  rotate_left
  · have HN := par_no hc hc2 hgood
    have key : ((pointE s != 0) = true ∨ ((pointE s != 0) = false ∧ (pointE d != 0) = true)) ∨ ((pointE s != 0) = false ∧ (pointE d != 0) = false ∧ tmay (nmN f : Nat) (pointN s : Nat) (pointN d : Nat) = false) := by
      by_cases h1 : pointE s = 0
      · by_cases h2 : pointE d = 0
        · right
          refine ⟨by rw [h1]; rfl, by rw [h2]; rfl, ?_⟩
          cases h3 : tmay (nmN f : Nat) (pointN s : Nat) (pointN d : Nat) with
          | false => rfl
          | true => exact absurd ⟨h1, h2, h3⟩ hgood
        · left; right; exact ⟨by rw [h1]; rfl, by simpa using h2⟩
      · left; left; simpa using h1
    clear hgood hc hc2
    generalize tmay (nmN f : Nat) (pointN s : Nat) (pointN d : Nat) = q at *
    generalize pointA s = a at *
    generalize pointN s = m at *
    generalize pointE s = es at *
    generalize pointA d = b at *
    generalize pointN d = n at *
    generalize pointE d = ed at *
    generalize nmN f = p at *
    rcases key with hw | ⟨k1, k2, rfl⟩
    · rcases hw with k1 | ⟨k1, k2⟩
      all_goals
        go_enter Tryd.func11, Tryd.ntmps11
        have B1 := Below.refl w.heap.size w
        go_wp2_with fail
        have R_2 := Box5.make w (.int .u8 0) (.int .u32 0) (.int .u16 0) (.int .u32 0) (.int .u16 0) 29
        have B3 := B1.alloc B1.size (.cells #[.int .u8 0, .int .u32 0, .int .u16 0, .int .u32 0, .int .u16 0] 29)
        clear B1
        have fzR_4 : ∀ i, (w.alloc (.cells #[.int .u8 0, .int .u32 0, .int .u16 0, .int .u32 0, .int .u16 0] 29)).frozen? ⟨w.heap.size, i, none⟩ = false := by intro i; simp [go_sem]
        refine (c1 _).mono ?_; rintro e w1 ⟨rfl, x1⟩
        have fzR_5 : ∀ i, w1.frozen? ⟨w.heap.size, i, none⟩ = false := fun i => (x1.frozen (p := ⟨_, i, none⟩) R_2.1).trans (fzR_4 i)
        clear fzR_4
        have R_6 := R_2.on x1
        have B7 := B3.trans (x1.mono B3.size)
        clear R_2 B3 x1
        clear c1
        go_wp2_with fail
        refine (c2 _).mono ?_; rintro e w2 ⟨rfl, x2⟩
        have fzR_8 : ∀ i, w2.frozen? ⟨w.heap.size, i, none⟩ = false := fun i => (x2.frozen (p := ⟨_, i, none⟩) R_6.1).trans (fzR_5 i)
        clear fzR_5
        have R_9 := R_6.on x2
        have B10 := B7.trans (x2.mono B7.size)
        clear R_6 B7 x2
        clear c2
        go_wp2_with fail
        refine (c3 _).mono ?_; rintro e w3 ⟨rfl, x3⟩
        have fzR_11 : ∀ i, w3.frozen? ⟨w.heap.size, i, none⟩ = false := fun i => (x3.frozen (p := ⟨_, i, none⟩) R_9.1).trans (fzR_8 i)
        clear fzR_8
        have R_12 := R_9.on x3
        have B13 := B10.trans (x3.mono B10.size)
        clear R_9 B10 x3
        clear c3
        have Ls := Lib.hid (show w.heap.size < w3.heap.size from R_12.1)
        have fzR_14 : ∀ i, (w3.alloc (.cells #[.int .u32 (a : Int), .int .u16 (m : Int)] 27)).frozen? ⟨w.heap.size, i, none⟩ = false := fun i => (((Below.refl w3.heap.size w3).alloc (Nat.le_refl _) (.cells #[.int .u32 (a : Int), .int .u16 (m : Int)] 27)).frozen (p := ⟨_, i, none⟩) R_12.1).trans (fzR_11 i)
        clear fzR_11
        have R_15 := R_12.past (o := (.cells #[.int .u32 (a : Int), .int .u16 (m : Int)] 27))
        have S_16 := Box2.make w3 (.int .u32 (a : Int)) (.int .u16 (m : Int)) 27
        have B17 := B13.alloc B13.size (.cells #[.int .u32 (a : Int), .int .u16 (m : Int)] 27)
        clear R_12 B13
        go_wp2_with fail
        refine (c4 _).mono ?_; rintro e w4 ⟨rfl, x4⟩
        have fzR_18 : ∀ i, w4.frozen? ⟨w.heap.size, i, none⟩ = false := fun i => (x4.frozen (p := ⟨_, i, none⟩) R_15.1).trans (fzR_14 i)
        clear fzR_14
        have R_19 := R_15.on x4
        have S_20 := S_16.on x4
        have B21 := B17.trans (x4.mono B17.size)
        clear R_15 S_16 B17 x4
        clear c4
        have Ld := Lib.hid (show w.heap.size < w4.heap.size from R_19.1)
        have fzR_22 : ∀ i, (w4.alloc (.cells #[.int .u32 (b : Int), .int .u16 (n : Int)] 27)).frozen? ⟨w.heap.size, i, none⟩ = false := fun i => (((Below.refl w4.heap.size w4).alloc (Nat.le_refl _) (.cells #[.int .u32 (b : Int), .int .u16 (n : Int)] 27)).frozen (p := ⟨_, i, none⟩) R_19.1).trans (fzR_18 i)
        clear fzR_18
        have R_23 := R_19.past (o := (.cells #[.int .u32 (b : Int), .int .u16 (n : Int)] 27))
        have S_24 := S_20.past (o := (.cells #[.int .u32 (b : Int), .int .u16 (n : Int)] 27))
        have D_25 := Box2.make w4 (.int .u32 (b : Int)) (.int .u16 (n : Int)) 27
        have B26 := B21.alloc B21.size (.cells #[.int .u32 (b : Int), .int .u16 (n : Int)] 27)
        clear R_19 S_20 B21
        go_wp2_with fail
        obtain ⟨u5, hu5⟩ : ∃ x, x = w4.alloc (.cells #[.int .u32 (b : Int), .int .u16 (n : Int)] 27) := ⟨_, rfl⟩
        rw [← hu5] at R_23 S_24 D_25 fzR_22 B26 ⊢
        clear hu5
        obtain ⟨zs, gs0, gs1⟩ := id S_24
        have Fs0 : ∀ x : Later u5.heap.size u5, x.u.cell? ⟨w3.heap.size, 0, none⟩ = some (.int .u32 (a : Int)) := fun x => x.block zs gs0
        have Fs1 : ∀ x : Later u5.heap.size u5, x.u.cell? ⟨w3.heap.size, 1, none⟩ = some (.int .u16 (m : Int)) := fun x => x.block zs gs1
        clear gs0 gs1
        obtain ⟨zd, gd0, gd1⟩ := id D_25
        have Fd0 : ∀ x : Later u5.heap.size u5, x.u.cell? ⟨w4.heap.size, 0, none⟩ = some (.int .u32 (b : Int)) := fun x => x.block zd gd0
        have Fd1 : ∀ x : Later u5.heap.size u5, x.u.cell? ⟨w4.heap.size, 1, none⟩ = some (.int .u16 (n : Int)) := fun x => x.block zd gd1
        clear gd0 gd1
        refine region_lead (B := u5.heap.size) 5 1 (by kernel_rfl) (by kernel_rfl) (by kernel_rfl) (by kernel_rfl) ?_
        simp only [List.take_succ_cons, List.take_zero]
        repeat (go_big_quiet_step (first
          | (go_at_call 24; exact later_of _ (Nat.le_refl _) (cn _))))
        refine lead_end (by kernel_rfl) (by kernel_rfl) rfl fun w6 x6 G hG => ?_
        have fzR_27 : ∀ i, w6.frozen? ⟨w.heap.size, i, none⟩ = false := fun i => (x6.frozen (p := ⟨_, i, none⟩) R_23.1).trans (fzR_22 i)
        clear fzR_22
        have R_28 := R_23.on x6
        have S_29 := S_24.on x6
        have D_30 := D_25.on x6
        have B31 := B26.trans (x6.mono B26.size)
        clear Fs0 Fs1 zs Fd0 Fd1 zd R_23 S_24 D_25 B26 x6
        clear cn
        clear S_29 D_30
        obtain ⟨_, r1_0, r1_1, r1_2, r1_3, r1_4⟩ := id R_28
        go_simp
        refine hG.out _ _ ?_
        clear hG G
        refine box5f_ (b := w.heap.size) R_28.some B31 (Nat.le_refl _) fun z7 y7_0 y7_1 y7_2 y7_3 y7_4 B32 far sz fzz => ?_
        have R_33 : Box5 z7 w.heap.size (.int .u8 (p : Int)) (.int .u32 (a : Int)) (.int .u16 (m : Int)) (.int .u32 (b : Int)) (.int .u16 (n : Int)) := ⟨by rw [sz]; exact R_28.1, y7_0, y7_1, y7_2, y7_3, y7_4⟩
        have fzR_34 : ∀ i, z7.frozen? ⟨w.heap.size, i, none⟩ = false := fun i => (fzz _).trans (fzR_27 i)
        clear r1_0 r1_1 r1_2 r1_3 r1_4 y7_0 y7_1 y7_2 y7_3 y7_4 R_28 B31 fzR_27 far sz fzz
        clear cm
        obtain ⟨_, r2_0, r2_1, r2_2, r2_3, r2_4⟩ := id R_33
        go_wp2
        refine box5_ (b := w.heap.size) R_33.some B32 (Nat.le_refl _) fun Z y0 y1 y2 y3 y4 BZ _ _ => ?_
        refine bodyPost_ret (v := .tuple #[.agg #[.int .u8 0, .int .u32 0, .int .u16 0, .int .u32 0, .int .u16 0], .int .i64 3]) (by simp [results, Tryd.results11, go_sem, y0, y1, y2, y3, y4]) rfl ?_
        rw [HN.out.1, HN.out.2.1, HN.out.2.2.1, HN.out.2.2.2.1, HN.out.2.2.2.2.1, HN.out.2.2.2.2.2]
        exact ⟨rfl, BZ⟩
    · go_enter Tryd.func11, Tryd.ntmps11
      have B1 := Below.refl w.heap.size w
      go_wp2_with fail
      have R_2 := Box5.make w (.int .u8 0) (.int .u32 0) (.int .u16 0) (.int .u32 0) (.int .u16 0) 29
      have B3 := B1.alloc B1.size (.cells #[.int .u8 0, .int .u32 0, .int .u16 0, .int .u32 0, .int .u16 0] 29)
      clear B1
      have fzR_4 : ∀ i, (w.alloc (.cells #[.int .u8 0, .int .u32 0, .int .u16 0, .int .u32 0, .int .u16 0] 29)).frozen? ⟨w.heap.size, i, none⟩ = false := by intro i; simp [go_sem]
      refine (c1 _).mono ?_; rintro e w1 ⟨rfl, x1⟩
      have fzR_5 : ∀ i, w1.frozen? ⟨w.heap.size, i, none⟩ = false := fun i => (x1.frozen (p := ⟨_, i, none⟩) R_2.1).trans (fzR_4 i)
      clear fzR_4
      have R_6 := R_2.on x1
      have B7 := B3.trans (x1.mono B3.size)
      clear R_2 B3 x1
      clear c1
      go_wp2_with fail
      refine (c2 _).mono ?_; rintro e w2 ⟨rfl, x2⟩
      have fzR_8 : ∀ i, w2.frozen? ⟨w.heap.size, i, none⟩ = false := fun i => (x2.frozen (p := ⟨_, i, none⟩) R_6.1).trans (fzR_5 i)
      clear fzR_5
      have R_9 := R_6.on x2
      have B10 := B7.trans (x2.mono B7.size)
      clear R_6 B7 x2
      clear c2
      go_wp2_with fail
      refine (c3 _).mono ?_; rintro e w3 ⟨rfl, x3⟩
      have fzR_11 : ∀ i, w3.frozen? ⟨w.heap.size, i, none⟩ = false := fun i => (x3.frozen (p := ⟨_, i, none⟩) R_9.1).trans (fzR_8 i)
      clear fzR_8
      have R_12 := R_9.on x3
      have B13 := B10.trans (x3.mono B10.size)
      clear R_9 B10 x3
      clear c3
      have Ls := Lib.hid (show w.heap.size < w3.heap.size from R_12.1)
      have fzR_14 : ∀ i, (w3.alloc (.cells #[.int .u32 (a : Int), .int .u16 (m : Int)] 27)).frozen? ⟨w.heap.size, i, none⟩ = false := fun i => (((Below.refl w3.heap.size w3).alloc (Nat.le_refl _) (.cells #[.int .u32 (a : Int), .int .u16 (m : Int)] 27)).frozen (p := ⟨_, i, none⟩) R_12.1).trans (fzR_11 i)
      clear fzR_11
      have R_15 := R_12.past (o := (.cells #[.int .u32 (a : Int), .int .u16 (m : Int)] 27))
      have S_16 := Box2.make w3 (.int .u32 (a : Int)) (.int .u16 (m : Int)) 27
      have B17 := B13.alloc B13.size (.cells #[.int .u32 (a : Int), .int .u16 (m : Int)] 27)
      clear R_12 B13
      go_wp2_with fail
      refine (c4 _).mono ?_; rintro e w4 ⟨rfl, x4⟩
      have fzR_18 : ∀ i, w4.frozen? ⟨w.heap.size, i, none⟩ = false := fun i => (x4.frozen (p := ⟨_, i, none⟩) R_15.1).trans (fzR_14 i)
      clear fzR_14
      have R_19 := R_15.on x4
      have S_20 := S_16.on x4
      have B21 := B17.trans (x4.mono B17.size)
      clear R_15 S_16 B17 x4
      clear c4
      have Ld := Lib.hid (show w.heap.size < w4.heap.size from R_19.1)
      have fzR_22 : ∀ i, (w4.alloc (.cells #[.int .u32 (b : Int), .int .u16 (n : Int)] 27)).frozen? ⟨w.heap.size, i, none⟩ = false := fun i => (((Below.refl w4.heap.size w4).alloc (Nat.le_refl _) (.cells #[.int .u32 (b : Int), .int .u16 (n : Int)] 27)).frozen (p := ⟨_, i, none⟩) R_19.1).trans (fzR_18 i)
      clear fzR_18
      have R_23 := R_19.past (o := (.cells #[.int .u32 (b : Int), .int .u16 (n : Int)] 27))
      have S_24 := S_20.past (o := (.cells #[.int .u32 (b : Int), .int .u16 (n : Int)] 27))
      have D_25 := Box2.make w4 (.int .u32 (b : Int)) (.int .u16 (n : Int)) 27
      have B26 := B21.alloc B21.size (.cells #[.int .u32 (b : Int), .int .u16 (n : Int)] 27)
      clear R_19 S_20 B21
      go_wp2_with fail
      obtain ⟨u5, hu5⟩ : ∃ x, x = w4.alloc (.cells #[.int .u32 (b : Int), .int .u16 (n : Int)] 27) := ⟨_, rfl⟩
      rw [← hu5] at R_23 S_24 D_25 fzR_22 B26 ⊢
      clear hu5
      obtain ⟨zs, gs0, gs1⟩ := id S_24
      have Fs0 : ∀ x : Later u5.heap.size u5, x.u.cell? ⟨w3.heap.size, 0, none⟩ = some (.int .u32 (a : Int)) := fun x => x.block zs gs0
      have Fs1 : ∀ x : Later u5.heap.size u5, x.u.cell? ⟨w3.heap.size, 1, none⟩ = some (.int .u16 (m : Int)) := fun x => x.block zs gs1
      clear gs0 gs1
      obtain ⟨zd, gd0, gd1⟩ := id D_25
      have Fd0 : ∀ x : Later u5.heap.size u5, x.u.cell? ⟨w4.heap.size, 0, none⟩ = some (.int .u32 (b : Int)) := fun x => x.block zd gd0
      have Fd1 : ∀ x : Later u5.heap.size u5, x.u.cell? ⟨w4.heap.size, 1, none⟩ = some (.int .u16 (n : Int)) := fun x => x.block zd gd1
      clear gd0 gd1
      refine region_lead (B := u5.heap.size) 5 1 (by kernel_rfl) (by kernel_rfl) (by kernel_rfl) (by kernel_rfl) ?_
      simp only [List.take_succ_cons, List.take_zero]
      repeat (go_big_quiet_step (first
        | (go_at_call 24; exact later_of _ (Nat.le_refl _) (cn _))))
      refine lead_end (by kernel_rfl) (by kernel_rfl) rfl fun w6 x6 G hG => ?_
      have fzR_27 : ∀ i, w6.frozen? ⟨w.heap.size, i, none⟩ = false := fun i => (x6.frozen (p := ⟨_, i, none⟩) R_23.1).trans (fzR_22 i)
      clear fzR_22
      have R_28 := R_23.on x6
      have S_29 := S_24.on x6
      have D_30 := D_25.on x6
      have B31 := B26.trans (x6.mono B26.size)
      clear Fs0 Fs1 zs Fd0 Fd1 zd R_23 S_24 D_25 B26 x6
      clear cn
      clear S_29 D_30
      obtain ⟨_, r1_0, r1_1, r1_2, r1_3, r1_4⟩ := id R_28
      go_simp
      refine hG.out _ _ ?_
      clear hG G
      refine box5f_ (b := w.heap.size) R_28.some B31 (Nat.le_refl _) fun z7 y7_0 y7_1 y7_2 y7_3 y7_4 B32 far sz fzz => ?_
      have R_33 : Box5 z7 w.heap.size (.int .u8 (p : Int)) (.int .u32 (a : Int)) (.int .u16 (m : Int)) (.int .u32 (b : Int)) (.int .u16 (n : Int)) := ⟨by rw [sz]; exact R_28.1, y7_0, y7_1, y7_2, y7_3, y7_4⟩
      have fzR_34 : ∀ i, z7.frozen? ⟨w.heap.size, i, none⟩ = false := fun i => (fzz _).trans (fzR_27 i)
      clear r1_0 r1_1 r1_2 r1_3 r1_4 y7_0 y7_1 y7_2 y7_3 y7_4 R_28 B31 fzR_27 far sz fzz
      obtain ⟨_, r2_0, r2_1, r2_2, r2_3, r2_4⟩ := id R_33
      go_wp2_with fail
      refine (cm _).mono ?_; rintro e w8 ⟨rfl, x8⟩
      have fzR_35 : ∀ i, w8.frozen? ⟨w.heap.size, i, none⟩ = false := fun i => (x8.frozen (p := ⟨_, i, none⟩) R_33.1).trans (fzR_34 i)
      clear fzR_34
      have R_36 := R_33.on x8
      have B37 := B32.trans (x8.mono B32.size)
      clear r2_0 r2_1 r2_2 r2_3 r2_4 R_33 B32 x8
      obtain ⟨_, r3_0, r3_1, r3_2, r3_3, r3_4⟩ := id R_36
      go_wp2
      refine box5_ (b := w.heap.size) R_36.some B37 (Nat.le_refl _) fun Z y0 y1 y2 y3 y4 BZ _ _ => ?_
      refine bodyPost_ret (v := .tuple #[.agg #[.int .u8 0, .int .u32 0, .int .u16 0, .int .u32 0, .int .u16 0], .int .i64 3]) (by simp [results, Tryd.results11, go_sem, y0, y1, y2, y3, y4]) rfl ?_
      rw [HN.out.1, HN.out.2.1, HN.out.2.2.1, HN.out.2.2.2.1, HN.out.2.2.2.2.1, HN.out.2.2.2.2.2]
      exact ⟨rfl, BZ⟩
  obtain ⟨ge1, ge2, hq⟩ := hgood
  rcases point_ways s with ⟨a, m, g1, g2, g3, g4, ha, hm⟩ | ⟨_, _, _, g4⟩
  rotate_left
  · omega
  rcases point_ways d with ⟨b, n, j1, j2, j3, j4, hb, hn⟩ | ⟨_, _, _, j4⟩
  rotate_left
  · omega
  rw [g3, j3] at hq
  have HY := par_yes hc hc2 g1 j1 hq
  rw [g2, g3, g4] at c3
  rw [j2, j3, j4] at c4
  rw [g2, g3, j2, j3, hq] at cm
  clear g2 g3 g4 j2 j3 j4 ge1 ge2 hc hc2 g1 j1 hq
  generalize nmN f = p at *
  go_enter Tryd.func11, Tryd.ntmps11
  have B1 := Below.refl w.heap.size w
  go_wp2_with fail
  have R_2 := Box5.make w (.int .u8 0) (.int .u32 0) (.int .u16 0) (.int .u32 0) (.int .u16 0) 29
  have B3 := B1.alloc B1.size (.cells #[.int .u8 0, .int .u32 0, .int .u16 0, .int .u32 0, .int .u16 0] 29)
  clear B1
  have fzR_4 : ∀ i, (w.alloc (.cells #[.int .u8 0, .int .u32 0, .int .u16 0, .int .u32 0, .int .u16 0] 29)).frozen? ⟨w.heap.size, i, none⟩ = false := by intro i; simp [go_sem]
  refine (c1 _).mono ?_; rintro e w1 ⟨rfl, x1⟩
  have fzR_5 : ∀ i, w1.frozen? ⟨w.heap.size, i, none⟩ = false := fun i => (x1.frozen (p := ⟨_, i, none⟩) R_2.1).trans (fzR_4 i)
  clear fzR_4
  have R_6 := R_2.on x1
  have B7 := B3.trans (x1.mono B3.size)
  clear R_2 B3 x1
  clear c1
  go_wp2_with fail
  refine (c2 _).mono ?_; rintro e w2 ⟨rfl, x2⟩
  have fzR_8 : ∀ i, w2.frozen? ⟨w.heap.size, i, none⟩ = false := fun i => (x2.frozen (p := ⟨_, i, none⟩) R_6.1).trans (fzR_5 i)
  clear fzR_5
  have R_9 := R_6.on x2
  have B10 := B7.trans (x2.mono B7.size)
  clear R_6 B7 x2
  clear c2
  go_wp2_with fail
  refine (c3 _).mono ?_; rintro e w3 ⟨rfl, x3⟩
  have fzR_11 : ∀ i, w3.frozen? ⟨w.heap.size, i, none⟩ = false := fun i => (x3.frozen (p := ⟨_, i, none⟩) R_9.1).trans (fzR_8 i)
  clear fzR_8
  have R_12 := R_9.on x3
  have B13 := B10.trans (x3.mono B10.size)
  clear R_9 B10 x3
  clear c3
  have Ls := Lib.hid (show w.heap.size < w3.heap.size from R_12.1)
  have fzR_14 : ∀ i, (w3.alloc (.cells #[.int .u32 (a : Int), .int .u16 (m : Int)] 27)).frozen? ⟨w.heap.size, i, none⟩ = false := fun i => (((Below.refl w3.heap.size w3).alloc (Nat.le_refl _) (.cells #[.int .u32 (a : Int), .int .u16 (m : Int)] 27)).frozen (p := ⟨_, i, none⟩) R_12.1).trans (fzR_11 i)
  clear fzR_11
  have R_15 := R_12.past (o := (.cells #[.int .u32 (a : Int), .int .u16 (m : Int)] 27))
  have S_16 := Box2.make w3 (.int .u32 (a : Int)) (.int .u16 (m : Int)) 27
  have B17 := B13.alloc B13.size (.cells #[.int .u32 (a : Int), .int .u16 (m : Int)] 27)
  clear R_12 B13
  go_wp2_with fail
  refine (c4 _).mono ?_; rintro e w4 ⟨rfl, x4⟩
  have fzR_18 : ∀ i, w4.frozen? ⟨w.heap.size, i, none⟩ = false := fun i => (x4.frozen (p := ⟨_, i, none⟩) R_15.1).trans (fzR_14 i)
  clear fzR_14
  have R_19 := R_15.on x4
  have S_20 := S_16.on x4
  have B21 := B17.trans (x4.mono B17.size)
  clear R_15 S_16 B17 x4
  clear c4
  have Ld := Lib.hid (show w.heap.size < w4.heap.size from R_19.1)
  have fzR_22 : ∀ i, (w4.alloc (.cells #[.int .u32 (b : Int), .int .u16 (n : Int)] 27)).frozen? ⟨w.heap.size, i, none⟩ = false := fun i => (((Below.refl w4.heap.size w4).alloc (Nat.le_refl _) (.cells #[.int .u32 (b : Int), .int .u16 (n : Int)] 27)).frozen (p := ⟨_, i, none⟩) R_19.1).trans (fzR_18 i)
  clear fzR_18
  have R_23 := R_19.past (o := (.cells #[.int .u32 (b : Int), .int .u16 (n : Int)] 27))
  have S_24 := S_20.past (o := (.cells #[.int .u32 (b : Int), .int .u16 (n : Int)] 27))
  have D_25 := Box2.make w4 (.int .u32 (b : Int)) (.int .u16 (n : Int)) 27
  have B26 := B21.alloc B21.size (.cells #[.int .u32 (b : Int), .int .u16 (n : Int)] 27)
  clear R_19 S_20 B21
  go_wp2_with fail
  obtain ⟨u5, hu5⟩ : ∃ x, x = w4.alloc (.cells #[.int .u32 (b : Int), .int .u16 (n : Int)] 27) := ⟨_, rfl⟩
  rw [← hu5] at R_23 S_24 D_25 fzR_22 B26 ⊢
  clear hu5
  obtain ⟨zs, gs0, gs1⟩ := id S_24
  have Fs0 : ∀ x : Later u5.heap.size u5, x.u.cell? ⟨w3.heap.size, 0, none⟩ = some (.int .u32 (a : Int)) := fun x => x.block zs gs0
  have Fs1 : ∀ x : Later u5.heap.size u5, x.u.cell? ⟨w3.heap.size, 1, none⟩ = some (.int .u16 (m : Int)) := fun x => x.block zs gs1
  clear gs0 gs1
  obtain ⟨zd, gd0, gd1⟩ := id D_25
  have Fd0 : ∀ x : Later u5.heap.size u5, x.u.cell? ⟨w4.heap.size, 0, none⟩ = some (.int .u32 (b : Int)) := fun x => x.block zd gd0
  have Fd1 : ∀ x : Later u5.heap.size u5, x.u.cell? ⟨w4.heap.size, 1, none⟩ = some (.int .u16 (n : Int)) := fun x => x.block zd gd1
  clear gd0 gd1
  refine region_lead (B := u5.heap.size) 5 1 (by kernel_rfl) (by kernel_rfl) (by kernel_rfl) (by kernel_rfl) ?_
  simp only [List.take_succ_cons, List.take_zero]
  repeat (go_big_quiet_step (first
    | (go_at_call 24; exact later_of _ (Nat.le_refl _) (cn _))))
  refine lead_end (by kernel_rfl) (by kernel_rfl) rfl fun w6 x6 G hG => ?_
  have fzR_27 : ∀ i, w6.frozen? ⟨w.heap.size, i, none⟩ = false := fun i => (x6.frozen (p := ⟨_, i, none⟩) R_23.1).trans (fzR_22 i)
  clear fzR_22
  have R_28 := R_23.on x6
  have S_29 := S_24.on x6
  have D_30 := D_25.on x6
  have B31 := B26.trans (x6.mono B26.size)
  clear Fs0 Fs1 zs Fd0 Fd1 zd R_23 S_24 D_25 B26 x6
  clear cn
  clear S_29 D_30
  obtain ⟨_, r1_0, r1_1, r1_2, r1_3, r1_4⟩ := id R_28
  go_simp
  refine hG.out _ _ ?_
  clear hG G
  refine box5f_ (b := w.heap.size) R_28.some B31 (Nat.le_refl _) fun z7 y7_0 y7_1 y7_2 y7_3 y7_4 B32 far sz fzz => ?_
  have R_33 : Box5 z7 w.heap.size (.int .u8 (p : Int)) (.int .u32 (a : Int)) (.int .u16 (m : Int)) (.int .u32 (b : Int)) (.int .u16 (n : Int)) := ⟨by rw [sz]; exact R_28.1, y7_0, y7_1, y7_2, y7_3, y7_4⟩
  have fzR_34 : ∀ i, z7.frozen? ⟨w.heap.size, i, none⟩ = false := fun i => (fzz _).trans (fzR_27 i)
  clear r1_0 r1_1 r1_2 r1_3 r1_4 y7_0 y7_1 y7_2 y7_3 y7_4 R_28 B31 fzR_27 far sz fzz
  obtain ⟨_, r2_0, r2_1, r2_2, r2_3, r2_4⟩ := id R_33
  go_wp2_with fail
  refine (cm _).mono ?_; rintro e w8 ⟨rfl, x8⟩
  have fzR_35 : ∀ i, w8.frozen? ⟨w.heap.size, i, none⟩ = false := fun i => (x8.frozen (p := ⟨_, i, none⟩) R_33.1).trans (fzR_34 i)
  clear fzR_34
  have R_36 := R_33.on x8
  have B37 := B32.trans (x8.mono B32.size)
  clear r2_0 r2_1 r2_2 r2_3 r2_4 R_33 B32 x8
  obtain ⟨_, r3_0, r3_1, r3_2, r3_3, r3_4⟩ := id R_36
  go_wp2
  refine box5_ (b := w.heap.size) R_36.some B37 (Nat.le_refl _) fun Z y0 y1 y2 y3 y4 BZ _ _ => ?_
  refine bodyPost_ret (v := .tuple #[.agg #[.int .u8 (p : Int), .int .u32 (a : Int), .int .u16 (m : Int), .int .u32 (b : Int), .int .u16 (n : Int)], .int .i64 0]) (by simp [results, Tryd.results11, go_sem, y0, y1, y2, y3, y4]) rfl ?_
  rw [HY.out.1, HY.out.2.1, HY.out.2.2.1, HY.out.2.2.2.1, HY.out.2.2.2.2.1, HY.out.2.2.2.2.2]
  exact ⟨rfl, BZ⟩
end Go.Proofs.YtidkgnanfhdhdaaDoor

namespace Go.Proofs.YtidkgnanfhdhdaaDoor
set_option linter.unusedVariables false
set_option linter.unusedSimpArgs false
open Go.ChangeShapes Go.WideShapes Go.ChangeAt Go.RowKit Go.PlainAid
attribute [local go_sem ↓] Go.wp_at_zero Go.wp_at_succ
theorem tupOk : TupOk := ⟨fun s w hs _ => of8_ s w hs, fun p a m b n w _ _ _ _ _ _ _ _ _ _ _ => back8_ p a m b n w, fun p a m b n w _ _ _ _ _ _ _ _ _ _ _ => may8_ p a m b n w, fun p q a m b n c k d l w p0 _ q0 _ ha hm hb hn hc hk hd hl _ => less8_ p q a m b n c k d l w p0 q0 ha hm hb hn hc hk hd hl, fun p a m b n w _ ha hm hb hn ht => text8_ p a m b n w ha hm hb hn ht, fun l w hl _ => parse8_ l w hl⟩
end Go.Proofs.YtidkgnanfhdhdaaDoor
