/- Texts of this proof, together: RulesPlay, RulesPlayW. -/
import Derived.Test.YtoogegpkgohffaaSs
import Derived.Deep.WholeRow
import Derived.Laws.Tables
namespace Go.Proofs.Ytoogegpkgohffaa
set_option linter.unusedVariables false
set_option linter.unusedSimpArgs false
open Go.ChangeShapes Go.WideShapes Go.ChangeAt Go.RowKit Go.PlainAid
attribute [local go_sem ↓] Go.wp_at_zero Go.wp_at_succ
namespace RulesPlay
theorem store_new {P : Program} {ops : Array Oper} {rest : List Oper} {op : Oper} {a : Act} {w : World} {Q : Exit → Act → World → Prop} (hgd : op.guard = none) (ty : TypeId) (x y : Operand) (ho : op.op = .store ty x y) (cells old : Array Value) (hx : a.eval x = .pointer (some ⟨w.heap.size, 0, none⟩)) (hy : a.eval y = .agg cells)
    (hi : (P.info? ty).map (·.size) = some cells.size) (hold : old.size = cells.size) (h1 : cells.all (·.oneCell') = true) (h : wpList P ops Q rest (a.put op.dst undef) (w.alloc (.cells cells ty))) : wpList P ops Q (op :: rest) a (w.alloc (.cells old ty)) :=
  wpList_store_row hgd ty x y ho w.heap.size cells hx hy ty old (heap_alloc_last w _) hi hold h1 (by rw [World.setRow_alloc_new]; exact h)
set_option maxHeartbeats 8000000 in
set_option maxRecDepth 100000 in
theorem walk (a : Option Addr) (len cap : Nat) (l : List Ac) (w : World) (A0 : AcAt w a len l) (hm : len ≤ maxLen) :
    Calls Try.prog 3 #[.slice a len cap] w fun e w' => e = .returned (.bool true) ∧ Below w.heap.size w w' := by
  have rl := fun u => ruled_ u
  by_cases h : 60 < len
  · have e1 : decide (60 < len) = true := by simpa using h
    have e2 : decide ((60 : Int) < (len : Int)) = true := by simp; omega
    clear A0 h
    go_enter Try.func3, Try.ntmps3
    have B1 := Below.refl w.heap.size w
    go_wp2_with fail
    refine (rl _).mono ?_; rintro e w1 ⟨rfl, x1⟩
    have B2 := B1.trans (x1.mono B1.size)
    clear B1 x1
    go_wp2
    go_ret
    exact ⟨rfl, B2⟩
  have e1 : decide (60 < len) = false := by simpa using h
  have e2 : decide ((60 : Int) < (len : Int)) = false := by simp; omega
  have hl : len ≤ 60 := by omega
  have AZ := Lib.hid A0
  have HL := Lib.hid hl
  clear h hm A0 hl
  go_enter Try.func3, Try.ntmps3
  have B1 := Below.refl w.heap.size w
  go_wp2_with fail
  refine (tens_ _).mono ?_; rintro e w1 ⟨rfl, x1⟩
  have B2 := B1.trans (x1.mono B1.size)
  clear B1 x1
  go_wp2_with fail
  refine (xn0 _).mono ?_; rintro e w2 ⟨p, rfl, T0, x2⟩
  have T0 := T0.less B2.size
  have hx := x2
  have B3 := B2.trans (hx.mono B2.size)
  clear B2 hx
  clear x2
  go_wp2_with fail
  refine (tens_ _).mono ?_; rintro e w3 ⟨rfl, x3⟩
  have T_4 := T0.on x3
  clear T0
  have B5 := B3.trans (x3.mono B3.size)
  clear B3 x3
  go_wp2_with fail
  refine (yn0 _).mono ?_; rintro e w4 ⟨q, rfl, U0, x4⟩
  have ap0 : Apart p (.slice none 0 0) q (.slice none 0 0) := Apart.of T_4.lt U0.ge
  have U0 := TabD.less U0 B5.size
  have hx := x4
  have T_6 := T_4.on hx
  clear T_4
  have B7 := B5.trans (hx.mono B5.size)
  clear B5 hx
  clear x4
  go_wp2_with fail
  go_loopw [3, 7] (fun st si wr => ∃ (i p : Nat) (v v' : Value) (t : Tm), i ≤ len ∧ si = .int .i64 (i : Int) ∧ st = .pointer (some ⟨p, 0, none⟩) ∧ Below w.heap.size w wr ∧ TabC wr w.heap.size p v t ∧ TabD wr w.heap.size q v' t ∧ Apart p v q v' ∧ t.Good) (fun _ si _ => len - (intOf si).toNat)
  case atStart => exact ⟨0, p, _, _, tm0, Nat.zero_le _, rfl, rfl, B7, T_6, U0, ap0, good0⟩
  case round =>
    clear T_6 U0 B7 ap0
    obtain ⟨i, p, v, v', t, hi, rfl, rfl, bb, T, U, ap, G⟩ := hrel
    by_cases hlt : i < len
    rotate_left
    · have e10 : decide ((i : Int) < (len : Int)) = false := by simp; omega
      have e11 : decide (i < len) = false := by simp; omega
      clear hlt hi T U ap G
      go_wp2_with fail
      refine (rl _).mono ?_; rintro e w9 ⟨rfl, x9⟩
      go_wp2
      go_ret
      exact ⟨rfl, bb.trans (x9.mono bb.size)⟩
    have HI := Lib.hid hlt
    have e10 : decide ((i : Int) < (len : Int)) = true := by simp; omega
    have e11 : decide (i < len) = true := by simp; omega
    have e12 : (i : Int) < (len : Int) := by omega
    obtain ⟨b, off, ha, hb, hc⟩ : ∃ b off, a = some ⟨b, off, none⟩ ∧ b < w.heap.size ∧ _ := by
      rcases AZ.out.cells with h | h
      · omega
      · exact h
    subst ha
    have ca := (hc i hlt).on hb bb
    have ok := AZ.out.okAt hlt
    obtain ⟨x, hx⟩ : ∃ x, x = l.getD i Ac.zero := ⟨_, rfl⟩
    rw [← hx] at ca ok
    have HR := range19 ca
    have GG := Lib.hid G
    have OK := Lib.hid ok
    clear hx ca hc hi hlt hb G ok rl
    go_upto_block 2 with (first | (refine wpList_load_mid rfl 44 _ rfl b (off + i * 19) rfl [.int .u8 x.kd, .int .i64 x.at_, .int .u8 x.d.d0, .int .u8 x.d.d1, .int .u8 x.d.d2, .int .u8 x.d.d3, .int .u8 x.d.d4, .int .u8 x.d.d5, .int .i64 x.r.k, .int .u8 x.r.pr, .int .u32 (x.r.si : Int), .int .i64 x.r.sb, .int .u32 (x.r.di : Int), .int .i64 x.r.db, .int .u32 (x.r.ex : Int), .int .u16 x.r.fr, .int .u16 x.r.to, .int .u32 (x.r.ii : Int), .int .u16 x.r.ip] _ HR Try.underlying44 rfl (by kernel_rfl) ?_) | (refine store_new rfl 44 _ _ rfl #[.int .u8 x.kd, .int .i64 x.at_, .int .u8 x.d.d0, .int .u8 x.d.d1, .int .u8 x.d.d2, .int .u8 x.d.d3, .int .u8 x.d.d4, .int .u8 x.d.d5, .int .i64 x.r.k, .int .u8 x.r.pr, .int .u32 (x.r.si : Int), .int .i64 x.r.sb, .int .u32 (x.r.di : Int), .int .i64 x.r.db, .int .u32 (x.r.ex : Int), .int .u16 x.r.fr, .int .u16 x.r.to, .int .u32 (x.r.ii : Int), .int .u16 x.r.ip] #[.int .u8 0, .int .i64 0, .int .u8 0, .int .u8 0, .int .u8 0, .int .u8 0, .int .u8 0, .int .u8 0, .int .i64 0, .int .u8 0, .int .u32 0, .int .i64 0, .int .u32 0, .int .i64 0, .int .u32 0, .int .u16 0, .int .u16 0, .int .u32 0, .int .u16 0] rfl rfl (by kernel_rfl) rfl (by simp [Value.oneCell']) ?_))
    clear HR
    have nfXT_101 : ¬ footC p (v) (wr.heap.size) := by
      have hs_ : wr.heap.size = wr.heap.size := by simp
      rw [← hs_]
      exact T.newer
    have nfXU_102 : ¬ footC q (v') (wr.heap.size) := by
      have hs_ : wr.heap.size = wr.heap.size := by simp
      rw [← hs_]
      exact U.newer
    have T_103 := T.on ((Below.refl wr.heap.size wr).alloc (Nat.le_refl _) (.cells #[.int .u8 x.kd, .int .i64 x.at_, .int .u8 x.d.d0, .int .u8 x.d.d1, .int .u8 x.d.d2, .int .u8 x.d.d3, .int .u8 x.d.d4, .int .u8 x.d.d5, .int .i64 x.r.k, .int .u8 x.r.pr, .int .u32 (x.r.si : Int), .int .i64 x.r.sb, .int .u32 (x.r.di : Int), .int .i64 x.r.db, .int .u32 (x.r.ex : Int), .int .u16 x.r.fr, .int .u16 x.r.to, .int .u32 (x.r.ii : Int), .int .u16 x.r.ip] 44))
    clear T
    have U_104 := U.on ((Below.refl wr.heap.size wr).alloc (Nat.le_refl _) (.cells #[.int .u8 x.kd, .int .i64 x.at_, .int .u8 x.d.d0, .int .u8 x.d.d1, .int .u8 x.d.d2, .int .u8 x.d.d3, .int .u8 x.d.d4, .int .u8 x.d.d5, .int .i64 x.r.k, .int .u8 x.r.pr, .int .u32 (x.r.si : Int), .int .i64 x.r.sb, .int .u32 (x.r.di : Int), .int .i64 x.r.db, .int .u32 (x.r.ex : Int), .int .u16 x.r.fr, .int .u16 x.r.to, .int .u32 (x.r.ii : Int), .int .u16 x.r.ip] 44))
    clear U
    have X_105 := Box19.make wr (.int .u8 x.kd) (.int .i64 x.at_) (.int .u8 x.d.d0) (.int .u8 x.d.d1) (.int .u8 x.d.d2) (.int .u8 x.d.d3) (.int .u8 x.d.d4) (.int .u8 x.d.d5) (.int .i64 x.r.k) (.int .u8 x.r.pr) (.int .u32 (x.r.si : Int)) (.int .i64 x.r.sb) (.int .u32 (x.r.di : Int)) (.int .i64 x.r.db) (.int .u32 (x.r.ex : Int)) (.int .u16 x.r.fr) (.int .u16 x.r.to) (.int .u32 (x.r.ii : Int)) (.int .u16 x.r.ip) 44
    have B106 := bb.alloc bb.size (.cells #[.int .u8 x.kd, .int .i64 x.at_, .int .u8 x.d.d0, .int .u8 x.d.d1, .int .u8 x.d.d2, .int .u8 x.d.d3, .int .u8 x.d.d4, .int .u8 x.d.d5, .int .i64 x.r.k, .int .u8 x.r.pr, .int .u32 (x.r.si : Int), .int .i64 x.r.sb, .int .u32 (x.r.di : Int), .int .i64 x.r.db, .int .u32 (x.r.ex : Int), .int .u16 x.r.fr, .int .u16 x.r.to, .int .u32 (x.r.ii : Int), .int .u16 x.r.ip] 44)
    clear bb
    obtain ⟨u11, hu11⟩ : ∃ x_ : World, x_ = wr.alloc (.cells #[.int .u8 x.kd, .int .i64 x.at_, .int .u8 x.d.d0, .int .u8 x.d.d1, .int .u8 x.d.d2, .int .u8 x.d.d3, .int .u8 x.d.d4, .int .u8 x.d.d5, .int .i64 x.r.k, .int .u8 x.r.pr, .int .u32 (x.r.si : Int), .int .i64 x.r.sb, .int .u32 (x.r.di : Int), .int .i64 x.r.db, .int .u32 (x.r.ex : Int), .int .u16 x.r.fr, .int .u16 x.r.to, .int .u32 (x.r.ii : Int), .int .u16 x.r.ip] 44) := ⟨_, rfl⟩
    rw [← hu11] at X_105 T_103 U_104 B106 ⊢
    clear hu11
    obtain ⟨kk, hkk⟩ : ∃ k_, x.kd.tmod 5 = k_ := ⟨_, rfl⟩
    rw [hkk]
    go_cut [3, 9] (fun s3 s9 wx => s9 = .bool true ∧ ∃ (p2 : Nat) (v2 v3 : Value) (t2 : Tm), s3 = .pointer (some ⟨p2, 0, none⟩) ∧ Below w.heap.size w wx ∧ TabC wx w.heap.size p2 v2 t2 ∧ TabD wx w.heap.size q v3 t2 ∧ Apart p2 v2 q v3 ∧ t2.Good ∧ Box19 wx wr.heap.size (.int .u8 x.kd) (.int .i64 x.at_) (.int .u8 x.d.d0) (.int .u8 x.d.d1) (.int .u8 x.d.d2) (.int .u8 x.d.d3) (.int .u8 x.d.d4) (.int .u8 x.d.d5) (.int .i64 x.r.k) (.int .u8 x.r.pr) (.int .u32 (x.r.si : Int)) (.int .i64 x.r.sb) (.int .u32 (x.r.di : Int)) (.int .i64 x.r.db) (.int .u32 (x.r.ex : Int)) (.int .u16 x.r.fr) (.int .u16 x.r.to) (.int .u32 (x.r.ii : Int)) (.int .u16 x.r.ip))
    case first =>
      have k0 := OK.out.kd.1
      have G := GG.out
      rcases five x.kd with k5 | k5 | k5 | k5
      all_goals rw [← Int.tmod_eq_emod_of_nonneg k0, hkk] at k5
      · subst k5
        exact arm1 (by kernel_rfl) x OK t G p q v v'  w wr _ B106 T_103 U_104 ap X_105 nfXT_101 nfXU_102 (fun _ _ d_ _ _ h => by cases d_ <;> exact h) (fun y2 y3 y9 y10 y44 y45 y46 y47 y48 y49 y50 y51 y52 y53 y54 y55 y56 y57 y58 y59 y60 y61 y62 y63 y64 y65 y66 y67 y68 y69 y70 y71 y72 y73 y74 y75 y76 y77 y78 y79 y80 y81 y82 y83 y84 y85 y86 y87 y88 y89 y90 y91 y92 y93 y94 y95 y96 y97 y98 y99 y100 y101 y102 y103 y104 y105 y106 y107 y108 y109 y110 y111 y112 y113 y114 y115 y116 y117 y118 y119 y120 y121 y122 y123 y124 y125 y126 y127 y128 wx h => by
          obtain ⟨rfl, p2, v2, v3, t2, rfl, h⟩ := h
          go_wp2
          go_meet
          exact ⟨rfl, p2, v2, v3, t2, rfl, h⟩)
      · subst k5
        exact arm2 (by kernel_rfl) x OK t G p q v v'  w wr _ B106 T_103 U_104 ap X_105 nfXT_101 nfXU_102 (fun _ _ d_ _ _ h => by cases d_ <;> exact h) (fun y2 y3 y9 y10 y44 y45 y46 y47 y48 y49 y50 y51 y52 y53 y54 y55 y56 y57 y58 y59 y60 y61 y62 y63 y64 y65 y66 y67 y68 y69 y70 y71 y72 y73 y74 y75 y76 y77 y78 y79 y80 y81 y82 y83 y84 y85 y86 y87 y88 y89 y90 y91 y92 y93 y94 y95 y96 y97 y98 y99 y100 y101 y102 y103 y104 y105 y106 y107 y108 y109 y110 y111 y112 y113 y114 y115 y116 y117 y118 y119 y120 y121 y122 y123 y124 y125 y126 y127 y128 wx h => by
          obtain ⟨rfl, p2, v2, v3, t2, rfl, h⟩ := h
          go_wp2
          go_meet
          exact ⟨rfl, p2, v2, v3, t2, rfl, h⟩)
      · subst k5
        exact arm3 (by kernel_rfl) x OK t G p q v v'  w wr _ B106 T_103 U_104 ap X_105 nfXT_101 nfXU_102 (fun _ _ d_ _ _ h => by cases d_ <;> exact h) (fun y2 y3 y9 y10 y44 y45 y46 y47 y48 y49 y50 y51 y52 y53 y54 y55 y56 y57 y58 y59 y60 y61 y62 y63 y64 y65 y66 y67 y68 y69 y70 y71 y72 y73 y74 y75 y76 y77 y78 y79 y80 y81 y82 y83 y84 y85 y86 y87 y88 y89 y90 y91 y92 y93 y94 y95 y96 y97 y98 y99 y100 y101 y102 y103 y104 y105 y106 y107 y108 y109 y110 y111 y112 y113 y114 y115 y116 y117 y118 y119 y120 y121 y122 y123 y124 y125 y126 y127 y128 wx h => by
          obtain ⟨rfl, p2, v2, v3, t2, rfl, h⟩ := h
          go_wp2
          go_meet
          exact ⟨rfl, p2, v2, v3, t2, rfl, h⟩)
      · exact arm4 (by kernel_rfl) x OK t G p q v v' kk k5 w wr _ B106 T_103 U_104 ap X_105 nfXT_101 nfXU_102 (fun _ _ d_ _ _ h => by cases d_ <;> exact h) (fun y2 y3 y9 y10 y44 y45 y46 y47 y48 y49 y50 y51 y52 y53 y54 y55 y56 y57 y58 y59 y60 y61 y62 y63 y64 y65 y66 y67 y68 y69 y70 y71 y72 y73 y74 y75 y76 y77 y78 y79 y80 y81 y82 y83 y84 y85 y86 y87 y88 y89 y90 y91 y92 y93 y94 y95 y96 y97 y98 y99 y100 y101 y102 y103 y104 y105 y106 y107 y108 y109 y110 y111 y112 y113 y114 y115 y116 y117 y118 y119 y120 y121 y122 y123 y124 y125 y126 y127 y128 wx h => by
          obtain ⟨rfl, p2, v2, v3, t2, rfl, h⟩ := h
          go_wp2
          go_meet
          exact ⟨rfl, p2, v2, v3, t2, rfl, h⟩)
    case rest =>
      obtain ⟨rfl, p2, v2, v3, t2, rfl, bq, T2, U2, ap2, G2, X2⟩ := hcut
      clear T_103 U_104 B106 ap X_105 GG
      have al := fun (u : World) (H : TabC u w.heap.size p2 v2 t2) (H' : TabD u w.heap.size q v3 t2) => alike_ t2 w.heap.size p2 q v2 v3 x.d u H H' G2 OK.out.d
      obtain ⟨_, x1_0, x1_1, x1_2, x1_3, x1_4, x1_5, x1_6, x1_7, x1_8, x1_9, x1_10, x1_11, x1_12, x1_13, x1_14, x1_15, x1_16, x1_17, x1_18⟩ := id X2
      go_wp2_with fail
      refine (al _ T2 U2).mono ?_; rintro e w111 ⟨rfl, x111⟩
      have T_801 := T2.on x111
      clear T2
      have U_802 := U2.on x111
      clear U2
      have X_803 := X2.on x111
      have B804 := bq.trans (x111.mono bq.size)
      clear x1_0 x1_1 x1_2 x1_3 x1_4 x1_5 x1_6 x1_7 x1_8 x1_9 x1_10 x1_11 x1_12 x1_13 x1_14 x1_15 x1_16 x1_17 x1_18 X2 bq x111
      clear al
      have e13 : (i : Int) + 1 ≤ 100000 := by have := HI.out; have := HL.out; omega
      go_wp2_with fail
      go_roundw
      case rel => exact ⟨i + 1, p2, v2, v3, t2, HI.out, by go_num, rfl, B804, T_801, U_802, ap2, G2⟩
      case measure => have := HI.out; simp [intOf]; omega
end RulesPlay
end Go.Proofs.Ytoogegpkgohffaa
namespace Go.Proofs.Ytoogegpkgohffaa
open Go.ChangeShapes Go.WideShapes Go.ChangeAt Go.RowKit Go.PlainAid
theorem RulesPlay.walkI (a : Option Addr) (len cap : Nat) (l : List Ac) (w : World) (hm : len ≤ maxLen) (A : AcAt w a len l) :
    Calls Try.prog 3 #[.slice a len cap] w fun e w' => e = .returned (.bool true) ∧ Below w.heap.size w w' :=
  RulesPlay.walk a len cap l w A hm
end Go.Proofs.Ytoogegpkgohffaa
