/- Texts of this proof, together: RewM, RewY, RewL, RewK, RewZ. -/
import Derived.Test.YtbglnebmfnoenaaGreatDoorGs
import Derived.Test.YtbglnebmfnoenaaGreatDoorGr
import Derived.Test.YtbglnebmfnoenaaGreatDoorGi
import Derived.Test.YtbglnebmfnoenaaGreatDoorGg
import Derived.Test.YtbglnebmfnoenaaGreatDoorGl
import Derived.Test.YtbglnebmfnoenaaGreatDoorSumsVoid
import Derived.Test.YtbglnebmfnoenaaGreatDoorGc
import Derived.Test.YtbglnebmfnoenaaGreatDoorGo
import Derived.Test.YtbglnebmfnoenaaGreatDoorGe
import Derived.Test.YtbglnebmfnoenaaGreatDoorSumsTurned
import Derived.BigRegion
import Derived.Deep.DeepCutAuto
namespace Go.Proofs.YtbglnebmfnoenaaGreatDoor
set_option linter.unusedVariables false
set_option linter.unusedSimpArgs false
open Go.ChangeShapes Go.WideShapes Go.ChangeAt Go.RowKit Go.PlainAid
attribute [local go_sem ↓] Go.wp_at_zero Go.wp_at_succ
structure RwOk : Prop where
  applies : ∀ (s : ByteArray) (a m b n : Int) (w : World), s.size ≤ 1000000 → okC a m b n → Tab w → Calls Tryz.prog 9 #[.string s, .agg #[.int .u32 a, .int .u16 m, .int .u32 b, .int .u16 n]] w fun e w' => e = .returned (.tuple #[.string (rwB s a m b n), .int .i64 (rwR s)]) ∧ Below w.heap.size w w'
theorem trimAll_ (s : ByteArray) (w : World) (hs : s.size ≤ maxLen) : Calls Tryz.prog 30 #[.string s, .string ⟨#[0]⟩] w fun e w' => e = .returned (.string (trimB s)) ∧ Below w.heap.size w w' := by
  by_cases h0 : s.size = 0
  · exact trim_0 s w h0
  · exact trim_ s w hs (by omega)
/-- Is a packet taken, and may it go on so often? -/
def tkB (s : ByteArray) (k : Int) : Bool := decide (seenR s = 0) && decide (k < sI s (bt s 8)) && decide (20 ≤ s.size)
theorem tk_rw (s : ByteArray) : tkB s 1 = decide (rwR s = 0) := by
  unfold tkB
  by_cases h : seenR s = 0
  · obtain ⟨hp, _⟩ := seen_ip h
    have z := (ip_facts hp).1
    have e : rwR s = if bt s 8 < 2 then 8 else 0 := by unfold rwR; rw [if_pos h]
    rw [decide_eq_true h, (s_yes h).1, e]
    by_cases c : bt s 8 < 2
    · rw [if_pos c]; simp; omega
    · rw [if_neg c]; simp; omega
  · have e : rwR s = seenR s := by unfold rwR; rw [if_neg h]
    rw [decide_eq_false h, e]
    simp [h]
set_option maxHeartbeats 4000000 in
set_option maxRecDepth 100000 in
theorem taken_ (s : ByteArray) (k : Int) (w : World) (hs : s.size ≤ 1000000) :
    Calls Tryz.prog 11 #[.string s, .int .u8 k] w fun e w' => e = .returned (.tuple #[.agg #[.int .u8 (sI s (bt s 9)), .int .u32 (sI s (g32 s 12)), .int .u16 (sI s (oM (bt s 9) (pP s))), .int .u32 (sI s (g32 s 16)), .int .u16 (sI s (oN (bt s 9) (pP s))), .int .i64 (sI s (oK (bt s 9) (pP s))), .int .u8 (sI s (oF (bt s 9) (pP s))), .bool (sB s (oA (bt s 9) (pP s))), .int .u8 (sI s (bt s 8))], .bool (tkB s k)]) ∧ Below w.heap.size w w' := by
  have co := fun u => of8_ s u hs
  have HY : Hid (tkB s k = (decide (seenR s = 0) && decide (k < sI s (bt s 8)) && decide (20 ≤ s.size))) := rfl
  generalize sI s (bt s 9) = v0 at *
  generalize sI s (g32 s 12) = v1 at *
  generalize sI s (oM (bt s 9) (pP s)) = v2 at *
  generalize sI s (g32 s 16) = v3 at *
  generalize sI s (oN (bt s 9) (pP s)) = v4 at *
  generalize sI s (oK (bt s 9) (pP s)) = v5 at *
  generalize sI s (oF (bt s 9) (pP s)) = v6 at *
  generalize sB s (oA (bt s 9) (pP s)) = v7 at *
  generalize sI s (bt s 8) = v8 at *
  generalize seenR s = q at *
  obtain ⟨y1, h1, j1⟩ : ∃ y : Bool, (q == 0) = y ∧ decide (q = 0) = y := ⟨decide (q = 0), by simp [BEq.beq], rfl⟩
  obtain ⟨y2, h2⟩ : ∃ y : Bool, decide (k < v8) = y := ⟨_, rfl⟩
  obtain ⟨y3, h3, h4⟩ : ∃ y : Bool, decide (20 ≤ s.size) = y ∧ decide ((20 : Int) ≤ (s.size : Int)) = y := ⟨_, rfl, by rw [decide_eq_decide]; omega⟩
  rw [j1, h2, h3] at HY
  clear j1 hs
  have key : y1 = false ∨ (y1 = true ∧ y2 = false) ∨ (y1 = true ∧ y2 = true ∧ y3 = false) ∨ (y1 = true ∧ y2 = true ∧ y3 = true) := by cases y1 <;> cases y2 <;> cases y3 <;> simp
  rcases key with rfl | ⟨rfl, rfl⟩ | ⟨rfl, rfl, rfl⟩ | ⟨rfl, rfl, rfl⟩
  all_goals
    simp only [Bool.false_and, Bool.true_and, Bool.and_false] at HY
    go_enter Tryz.func11, Tryz.ntmps11
    have B1 := Below.refl w.heap.size w
    go_wp2_with fail
    have R_2 := Box9.make w (.int .u8 0) (.int .u32 0) (.int .u16 0) (.int .u32 0) (.int .u16 0) (.int .i64 0) (.int .u8 0) (.bool false) (.int .u8 0) 38
    have B3 := B1.alloc B1.size (.cells #[.int .u8 0, .int .u32 0, .int .u16 0, .int .u32 0, .int .u16 0, .int .i64 0, .int .u8 0, .bool false, .int .u8 0] 38)
    clear B1
    have fzR_4 : ∀ i, (w.alloc (.cells #[.int .u8 0, .int .u32 0, .int .u16 0, .int .u32 0, .int .u16 0, .int .i64 0, .int .u8 0, .bool false, .int .u8 0] 38)).frozen? ⟨w.heap.size, i, none⟩ = false := by intro i; simp [go_sem]
    refine (co _).mono ?_; rintro e w1 ⟨rfl, x1⟩
    have fzR_5 : ∀ i, w1.frozen? ⟨w.heap.size, i, none⟩ = false := fun i => (x1.frozen (p := ⟨_, i, none⟩) R_2.1).trans (fzR_4 i)
    clear fzR_4
    have R_6 := R_2.on x1
    have B7 := B3.trans (x1.mono B3.size)
    clear R_2 B3 x1
    clear co
    have fzR_8 : ∀ i, (w1.alloc (.cells #[.int .u8 v0, .int .u32 v1, .int .u16 v2, .int .u32 v3, .int .u16 v4, .int .i64 v5, .int .u8 v6, .bool v7, .int .u8 v8] 38)).frozen? ⟨w.heap.size, i, none⟩ = false := fun i => (((Below.refl w1.heap.size w1).alloc (Nat.le_refl _) (.cells #[.int .u8 v0, .int .u32 v1, .int .u16 v2, .int .u32 v3, .int .u16 v4, .int .i64 v5, .int .u8 v6, .bool v7, .int .u8 v8] 38)).frozen (p := ⟨_, i, none⟩) R_6.1).trans (fzR_5 i)
    clear fzR_5
    have R_9 := R_6.past (o := (.cells #[.int .u8 v0, .int .u32 v1, .int .u16 v2, .int .u32 v3, .int .u16 v4, .int .i64 v5, .int .u8 v6, .bool v7, .int .u8 v8] 38))
    have X_10 := Box9.make w1 (.int .u8 v0) (.int .u32 v1) (.int .u16 v2) (.int .u32 v3) (.int .u16 v4) (.int .i64 v5) (.int .u8 v6) (.bool v7) (.int .u8 v8) 38
    have B11 := B7.alloc B7.size (.cells #[.int .u8 v0, .int .u32 v1, .int .u16 v2, .int .u32 v3, .int .u16 v4, .int .i64 v5, .int .u8 v6, .bool v7, .int .u8 v8] 38)
    clear R_6 B7
    obtain ⟨_, x1_0, x1_1, x1_2, x1_3, x1_4, x1_5, x1_6, x1_7, x1_8⟩ := id X_10
    obtain ⟨_, r2_0, r2_1, r2_2, r2_3, r2_4, r2_5, r2_6, r2_7, r2_8⟩ := id R_9
    go_wp2
    refine box9_ (b := w.heap.size) R_9.some B11 (Nat.le_refl _) fun Z x0 x1 x2 x3 x4 x5 x6 x7 x8 BZ _ _ => ?_
    refine bodyPost_ret (v := .tuple #[.agg #[.int .u8 v0, .int .u32 v1, .int .u16 v2, .int .u32 v3, .int .u16 v4, .int .i64 v5, .int .u8 v6, .bool v7, .int .u8 v8], .bool (tkB s k)]) (by simp [results, Tryz.results11, go_sem, HY.out, x0, x1, x2, x3, x4, x5, x6, x7, x8]) rfl ?_
    exact ⟨rfl, BZ⟩
set_option maxHeartbeats 4000000 in
set_option maxRecDepth 100000 in
theorem right_ (s : ByteArray) (w : World) (hp : pR s = 0) (hs : s.size ≤ 1000000) :
    Calls Tryz.prog 13 #[.string s] w fun e w' => e = .returned (.tuple #[.bool (rtB s), .bool (voidV (pP s))]) ∧ Below w.heap.size w w' := by
  have cp := fun u => ipParse_ s u (by unfold maxLen; omega)
  have y1 := (p_yes hp).1
  have y4 := (p_yes hp).2.2.2
  rw [y1, y1, y1, y1, y1, y1, hp] at cp
  have hL : (pP s).size ≤ 1000000 := by rw [y4, ByteArray.size_extract]; omega
  clear y1 y4
  have hq := okC_of s
  have ct := fun u => trimAll_ (pP s) u (by unfold maxLen; omega)
  have k6 := fun u => tcpCheck_ (g32 s 12) (g32 s 16) (pP s) u hq.1 hq.2.1 hq.2.2.2.2.1 hq.2.2.2.2.2.1 hL
  have k17 := fun u => udpCheck_ (g32 s 12) (g32 s 16) (pP s) u hq.1 hq.2.1 hq.2.2.2.2.1 hq.2.2.2.2.2.1 hL
  have k1 := fun u => icmpCheck_ (pP s) u hL
  have V : ∃ v : Bool, voidV (pP s) = v ∧ ((v = true ∧ (trimB (pP s)).toList = [] ∧ (trimB (pP s)).toList.isEmpty = true) ∨ (v = false ∧ ¬ (trimB (pP s)).toList = [] ∧ (trimB (pP s)).toList.isEmpty = false)) := by
    refine ⟨voidV (pP s), rfl, ?_⟩
    unfold voidV
    by_cases h : (trimB (pP s)).size = 0
    · have h1 := tl_nil.2 h
      exact .inl ⟨by simp [h], h1, by rw [h1]; rfl⟩
    · have h1 : ¬ (trimB (pP s)).toList = [] := by rw [tl_nil]; exact h
      refine .inr ⟨by simp [h], h1, ?_⟩
      cases e : (trimB (pP s)).toList with
      | nil => exact absurd e h1
      | cons a b => rfl
  obtain ⟨v, hv, key⟩ := V
  have HR : Hid (∃ r : Bool, rtB s = r ∧ ((bt s 9 = 6 ∧ r = ckT (g32 s 12) (g32 s 16) (pP s)) ∨ (bt s 9 = 17 ∧ r = ckU (g32 s 12) (g32 s 16) (pP s)) ∨ (¬ bt s 9 = 6 ∧ ¬ bt s 9 = 17 ∧ r = ckM (pP s)))) := by
    refine ⟨rtB s, rfl, ?_⟩
    unfold rtB
    by_cases c6 : bt s 9 = 6
    · exact .inl ⟨c6, by rw [if_pos c6]⟩
    · by_cases c17 : bt s 9 = 17
      · exact .inr (.inl ⟨c17, by rw [if_neg c6, if_pos c17]⟩)
      · exact .inr (.inr ⟨c6, c17, by rw [if_neg c6, if_neg c17]⟩)
  obtain ⟨r, hr, cs⟩ := HR.out
  rw [hv, hr]
  clear HR hr hv hq hp hL hs
  generalize ckT (g32 s 12) (g32 s 16) (pP s) = r6 at *
  generalize ckU (g32 s 12) (g32 s 16) (pP s) = r17 at *
  generalize ckM (pP s) = r1 at *
  generalize trimB (pP s) = T at *
  generalize bt s 1 = h0 at *
  generalize g16 s 4 = h1 at *
  generalize pF s = h2 at *
  generalize bt s 8 = h3 at *
  generalize bt s 9 = h4 at *
  generalize g32 s 12 = h5 at *
  generalize g32 s 16 = h6 at *
  generalize pO s = h7 at *
  generalize pP s = L at *
  rcases cs with ⟨rfl, rfl⟩ | ⟨rfl, rfl⟩ | ⟨c6, c17, rfl⟩
  · rcases key with ⟨rfl, n1, n2⟩ | ⟨rfl, n1, n2⟩
    all_goals
      go_enter Tryz.func13, Tryz.ntmps13
      have B1 := Below.refl w.heap.size w
      go_wp2_with fail
      refine (cp _).mono ?_; rintro e w1 ⟨rfl, x1⟩
      have B2 := B1.trans (x1.mono B1.size)
      clear B1 x1
      clear cp
      have H_3 := Box8.make w1 (.int .u8 h0) (.int .u16 h1) (.bool h2) (.int .u8 h3) (.int .u8 6) (.int .u32 h5) (.int .u32 h6) (.string h7) 53
      have B4 := B2.alloc B2.size (.cells #[.int .u8 h0, .int .u16 h1, .bool h2, .int .u8 h3, .int .u8 6, .int .u32 h5, .int .u32 h6, .string h7] 53)
      clear B2
      go_wp2_with fail
      refine (ct _).mono ?_; rintro e w2 ⟨rfl, x2⟩
      have H_5 := H_3.on x2
      have B6 := B4.trans (x2.mono B4.size)
      clear H_3 B4 x2
      clear ct
      obtain ⟨_, h1_0, h1_1, h1_2, h1_3, h1_4, h1_5, h1_6, h1_7⟩ := id H_5
      go_wp2_with fail
      refine (k6 _).mono ?_; rintro e w3 ⟨rfl, x3⟩
      have H_7 := H_5.on x3
      have B8 := B6.trans (x3.mono B6.size)
      clear h1_0 h1_1 h1_2 h1_3 h1_4 h1_5 h1_6 h1_7 H_5 B6 x3
      go_wp2
      go_ret2
      exact ⟨rfl, B8⟩
  · rcases key with ⟨rfl, n1, n2⟩ | ⟨rfl, n1, n2⟩
    all_goals
      go_enter Tryz.func13, Tryz.ntmps13
      have B1 := Below.refl w.heap.size w
      go_wp2_with fail
      refine (cp _).mono ?_; rintro e w1 ⟨rfl, x1⟩
      have B2 := B1.trans (x1.mono B1.size)
      clear B1 x1
      clear cp
      have H_3 := Box8.make w1 (.int .u8 h0) (.int .u16 h1) (.bool h2) (.int .u8 h3) (.int .u8 17) (.int .u32 h5) (.int .u32 h6) (.string h7) 53
      have B4 := B2.alloc B2.size (.cells #[.int .u8 h0, .int .u16 h1, .bool h2, .int .u8 h3, .int .u8 17, .int .u32 h5, .int .u32 h6, .string h7] 53)
      clear B2
      go_wp2_with fail
      refine (ct _).mono ?_; rintro e w2 ⟨rfl, x2⟩
      have H_5 := H_3.on x2
      have B6 := B4.trans (x2.mono B4.size)
      clear H_3 B4 x2
      clear ct
      obtain ⟨_, h1_0, h1_1, h1_2, h1_3, h1_4, h1_5, h1_6, h1_7⟩ := id H_5
      go_wp2_with fail
      refine (k17 _).mono ?_; rintro e w3 ⟨rfl, x3⟩
      have H_7 := H_5.on x3
      have B8 := B6.trans (x3.mono B6.size)
      clear h1_0 h1_1 h1_2 h1_3 h1_4 h1_5 h1_6 h1_7 H_5 B6 x3
      go_wp2
      go_ret2
      exact ⟨rfl, B8⟩
  · have e6 : (h4 == 6) = false := by simpa using c6
    have e17 : (h4 == 17) = false := by simpa using c17
    clear c6 c17
    rcases key with ⟨rfl, n1, n2⟩ | ⟨rfl, n1, n2⟩
    all_goals
      go_enter Tryz.func13, Tryz.ntmps13
      have B1 := Below.refl w.heap.size w
      go_wp2_with fail
      refine (cp _).mono ?_; rintro e w1 ⟨rfl, x1⟩
      have B2 := B1.trans (x1.mono B1.size)
      clear B1 x1
      clear cp
      have H_3 := Box8.make w1 (.int .u8 h0) (.int .u16 h1) (.bool h2) (.int .u8 h3) (.int .u8 h4) (.int .u32 h5) (.int .u32 h6) (.string h7) 53
      have B4 := B2.alloc B2.size (.cells #[.int .u8 h0, .int .u16 h1, .bool h2, .int .u8 h3, .int .u8 h4, .int .u32 h5, .int .u32 h6, .string h7] 53)
      clear B2
      go_wp2_with fail
      refine (ct _).mono ?_; rintro e w2 ⟨rfl, x2⟩
      have H_5 := H_3.on x2
      have B6 := B4.trans (x2.mono B4.size)
      clear H_3 B4 x2
      clear ct
      obtain ⟨_, h1_0, h1_1, h1_2, h1_3, h1_4, h1_5, h1_6, h1_7⟩ := id H_5
      go_wp2_with fail
      refine (k1 _).mono ?_; rintro e w3 ⟨rfl, x3⟩
      have H_7 := H_5.on x3
      have B8 := B6.trans (x3.mono B6.size)
      clear h1_0 h1_1 h1_2 h1_3 h1_4 h1_5 h1_6 h1_7 H_5 B6 x3
      go_wp2
      go_ret2
      exact ⟨rfl, B8⟩
end Go.Proofs.YtbglnebmfnoenaaGreatDoor

namespace Go.Proofs.YtbglnebmfnoenaaGreatDoor
set_option linter.unusedVariables false
set_option linter.unusedSimpArgs false
open Go.ChangeShapes Go.WideShapes Go.ChangeAt Go.RowKit Go.PlainAid
namespace RewLaid
def M1 : ByteArray := ⟨#[69, 0, 0, 29, 0, 0, 0, 0, 64, 17, 108, 202, 10, 0, 0, 1, 1, 2, 3, 4, 0, 5, 0, 53, 0, 9, 128, 155, 113]⟩
def A1 : ByteArray := ⟨#[69, 0, 0, 29, 0, 0, 0, 0, 63, 17, 107, 189, 5, 6, 7, 8, 1, 2, 3, 4, 35, 40, 0, 53, 0, 9, 91, 107, 113]⟩
def M2 : ByteArray := ⟨#[69, 0, 0, 29, 0, 0, 0, 0, 1, 17, 171, 202, 10, 0, 0, 1, 1, 2, 3, 4, 0, 5, 0, 53, 0, 9, 128, 155, 113]⟩
def M3 : ByteArray := ⟨#[97, 98, 99]⟩
def M4 : ByteArray := ⟨#[69, 0, 0, 29, 0, 0, 0, 0, 64, 1, 108, 218, 10, 0, 0, 1, 1, 2, 3, 4, 8, 0, 134, 247, 0, 7, 0, 1, 113]⟩
def A4 : ByteArray := ⟨#[69, 0, 0, 29, 0, 0, 0, 0, 63, 1, 107, 205, 5, 6, 7, 8, 1, 2, 3, 4, 8, 0, 99, 214, 35, 40, 0, 1, 113]⟩
def M5 : ByteArray := ⟨#[69, 0, 0, 29, 0, 0, 0, 0, 64, 1, 108, 218, 10, 0, 0, 1, 1, 2, 3, 4, 0, 0, 142, 247, 0, 7, 0, 1, 113]⟩
def A5 : ByteArray := ⟨#[69, 0, 0, 29, 0, 0, 0, 0, 63, 1, 107, 205, 5, 6, 7, 8, 1, 2, 3, 4, 0, 0, 142, 201, 0, 53, 0, 1, 113]⟩
theorem m1 : madeB 17 167772161 5 16909060 53 0 64 ⟨#[113]⟩ = M1 := by kernel_rfl
theorem m2 : madeB 17 167772161 5 16909060 53 0 1 ⟨#[113]⟩ = M2 := by kernel_rfl
theorem m4 : madeB 1 167772161 7 16909060 0 0 64 ⟨#[113]⟩ = M4 := by kernel_rfl
theorem m5 : madeB 1 167772161 0 16909060 7 0 64 ⟨#[113]⟩ = M5 := by kernel_rfl
theorem r1 : rwR M1 = 0 := by kernel_rfl
theorem r2 : rwR M2 = 8 := by kernel_rfl
theorem r3 : rwR M3 = 1 := by kernel_rfl
theorem r4 : rwR M4 = 0 := by kernel_rfl
theorem r5 : rwR M5 = 0 := by kernel_rfl
theorem a1 : rwB M1 84281096 9000 16909060 53 = A1 := by kernel_rfl
theorem a4 : rwB M4 84281096 9000 16909060 53 = A4 := by kernel_rfl
theorem a5 : rwB M5 84281096 9000 16909060 53 = A5 := by kernel_rfl
theorem s1 : sI A1 (bt A1 9) = 17 ∧ sI A1 (g32 A1 12) = 84281096 ∧ sI A1 (oM (bt A1 9) (pP A1)) = 9000 ∧ sI A1 (g32 A1 16) = 16909060 ∧ sI A1 (oN (bt A1 9) (pP A1)) = 53 ∧ sI A1 (oK (bt A1 9) (pP A1)) = 2 ∧ sI A1 (oF (bt A1 9) (pP A1)) = 0 ∧ sB A1 (oA (bt A1 9) (pP A1)) = false ∧ sI A1 (bt A1 8) = 63 ∧ seenR A1 = 0 := ⟨by kernel_rfl, by kernel_rfl, by kernel_rfl, by kernel_rfl, by kernel_rfl, by kernel_rfl, by kernel_rfl, by kernel_rfl, by kernel_rfl, by kernel_rfl⟩
theorem s4 : sI A4 (bt A4 9) = 1 ∧ sI A4 (g32 A4 12) = 84281096 ∧ sI A4 (oM (bt A4 9) (pP A4)) = 9000 ∧ sI A4 (g32 A4 16) = 16909060 ∧ sI A4 (oN (bt A4 9) (pP A4)) = 0 ∧ sI A4 (oK (bt A4 9) (pP A4)) = 2 ∧ sI A4 (oF (bt A4 9) (pP A4)) = 0 ∧ sB A4 (oA (bt A4 9) (pP A4)) = true ∧ sI A4 (bt A4 8) = 63 ∧ seenR A4 = 0 := ⟨by kernel_rfl, by kernel_rfl, by kernel_rfl, by kernel_rfl, by kernel_rfl, by kernel_rfl, by kernel_rfl, by kernel_rfl, by kernel_rfl, by kernel_rfl⟩
theorem s5 : sI A5 (bt A5 9) = 1 ∧ sI A5 (g32 A5 12) = 84281096 ∧ sI A5 (oM (bt A5 9) (pP A5)) = 0 ∧ sI A5 (g32 A5 16) = 16909060 ∧ sI A5 (oN (bt A5 9) (pP A5)) = 53 ∧ sI A5 (oK (bt A5 9) (pP A5)) = 2 ∧ sI A5 (oF (bt A5 9) (pP A5)) = 0 ∧ sB A5 (oA (bt A5 9) (pP A5)) = false ∧ sI A5 (bt A5 8) = 63 ∧ seenR A5 = 0 := ⟨by kernel_rfl, by kernel_rfl, by kernel_rfl, by kernel_rfl, by kernel_rfl, by kernel_rfl, by kernel_rfl, by kernel_rfl, by kernel_rfl, by kernel_rfl⟩
def X1 : List UInt8 := [117, 100, 112, 32, 53, 46, 54, 46, 55, 46, 56, 58, 57, 48, 48, 48, 32, 49, 46, 50, 46, 51, 46, 52, 58, 53, 51]
theorem x1 : ttextL 17 84281096 9000 16909060 53 = X1 := by kernel_rfl
end RewLaid
end Go.Proofs.YtbglnebmfnoenaaGreatDoor

namespace Go.Proofs.YtbglnebmfnoenaaGreatDoor
set_option linter.unusedVariables false
set_option linter.unusedSimpArgs false
open Go.ChangeShapes Go.WideShapes Go.ChangeAt Go.RowKit Go.PlainAid
attribute [local go_sem ↓] Go.wp_at_zero Go.wp_at_succ
set_option maxHeartbeats 4000000 in
set_option maxRecDepth 100000 in
theorem examples9_ (K : RwOk) (w : World) (ht : Tab w) :
    Calls Tryz.prog 8 #[] w fun e w' => e = .returned (.bool true) ∧ Below w.heap.size w w' := by
  have hc : okC 84281096 9000 16909060 53 := by unfold okC; omega
  have cm1 := fun u => rmade8_ 17 167772161 5 16909060 53 0 64 ⟨#[113]⟩ u (by omega) (by omega) (by omega) (by omega) (by omega) (by omega) (by omega) (by omega) (by omega) (by omega) (by omega) (by omega) (by omega) (by omega) (by decide)
  rw [RewLaid.m1] at cm1
  have ca1 := fun u hu => K.applies RewLaid.M1 84281096 9000 16909060 53 u (by decide) hc hu
  rw [RewLaid.a1, RewLaid.r1] at ca1
  have cm2 := fun u => rmade8_ 17 167772161 5 16909060 53 0 1 ⟨#[113]⟩ u (by omega) (by omega) (by omega) (by omega) (by omega) (by omega) (by omega) (by omega) (by omega) (by omega) (by omega) (by omega) (by omega) (by omega) (by decide)
  rw [RewLaid.m2] at cm2
  have ca2 := fun u hu => K.applies RewLaid.M2 84281096 9000 16909060 53 u (by decide) hc hu
  rw [rw_no (by rw [RewLaid.r2]; decide), RewLaid.r2] at ca2
  have cm4 := fun u => rmade8_ 1 167772161 7 16909060 0 0 64 ⟨#[113]⟩ u (by omega) (by omega) (by omega) (by omega) (by omega) (by omega) (by omega) (by omega) (by omega) (by omega) (by omega) (by omega) (by omega) (by omega) (by decide)
  rw [RewLaid.m4] at cm4
  have ca4 := fun u hu => K.applies RewLaid.M4 84281096 9000 16909060 53 u (by decide) hc hu
  rw [RewLaid.a4, RewLaid.r4] at ca4
  have cm5 := fun u => rmade8_ 1 167772161 0 16909060 7 0 64 ⟨#[113]⟩ u (by omega) (by omega) (by omega) (by omega) (by omega) (by omega) (by omega) (by omega) (by omega) (by omega) (by omega) (by omega) (by omega) (by omega) (by decide)
  rw [RewLaid.m5] at cm5
  have ca5 := fun u hu => K.applies RewLaid.M5 84281096 9000 16909060 53 u (by decide) hc hu
  rw [RewLaid.a5, RewLaid.r5] at ca5
  have ca3 := fun u hu => K.applies ⟨#[97, 98, 99]⟩ 84281096 9000 16909060 53 u (by decide) hc hu
  rw [rw_no (by rw [show rwR ⟨#[97, 98, 99]⟩ = 1 from RewLaid.r3]; decide), show rwR ⟨#[97, 98, 99]⟩ = 1 from RewLaid.r3] at ca3
  have co1 := fun u => of8_ RewLaid.A1 u (by decide)
  rw [RewLaid.s1.1, RewLaid.s1.2.1, RewLaid.s1.2.2.1, RewLaid.s1.2.2.2.1, RewLaid.s1.2.2.2.2.1, RewLaid.s1.2.2.2.2.2.1, RewLaid.s1.2.2.2.2.2.2.1, RewLaid.s1.2.2.2.2.2.2.2.1, RewLaid.s1.2.2.2.2.2.2.2.2.1, RewLaid.s1.2.2.2.2.2.2.2.2.2] at co1
  have co4 := fun u => of8_ RewLaid.A4 u (by decide)
  rw [RewLaid.s4.1, RewLaid.s4.2.1, RewLaid.s4.2.2.1, RewLaid.s4.2.2.2.1, RewLaid.s4.2.2.2.2.1, RewLaid.s4.2.2.2.2.2.1, RewLaid.s4.2.2.2.2.2.2.1, RewLaid.s4.2.2.2.2.2.2.2.1, RewLaid.s4.2.2.2.2.2.2.2.2.1, RewLaid.s4.2.2.2.2.2.2.2.2.2] at co4
  have co5 := fun u => of8_ RewLaid.A5 u (by decide)
  rw [RewLaid.s5.1, RewLaid.s5.2.1, RewLaid.s5.2.2.1, RewLaid.s5.2.2.2.1, RewLaid.s5.2.2.2.2.1, RewLaid.s5.2.2.2.2.2.1, RewLaid.s5.2.2.2.2.2.2.1, RewLaid.s5.2.2.2.2.2.2.2.1, RewLaid.s5.2.2.2.2.2.2.2.2.1, RewLaid.s5.2.2.2.2.2.2.2.2.2] at co5
  have ct := fun u hu => text8_ 17 84281096 9000 16909060 53 u (by omega) (by omega) (by omega) (by omega) hu
  rw [RewLaid.x1] at ct
  have ex : ((str RewLaid.X1).toList == [117, 100, 112, 32, 53, 46, 54, 46, 55, 46, 56, 58, 57, 48, 48, 48, 32, 49, 46, 50, 46, 51, 46, 52, 58, 53, 51]) = true := by rw [str_toList]; rfl
  have ex2 : (str RewLaid.X1).toList = [117, 100, 112, 32, 53, 46, 54, 46, 55, 46, 56, 58, 57, 48, 48, 48, 32, 49, 46, 50, 46, 51, 46, 52, 58, 53, 51] := by rw [str_toList]; rfl
  obtain ⟨X1, hX1⟩ : ∃ x, x = str RewLaid.X1 := ⟨_, rfl⟩
  rw [← hX1] at ct ex ex2
  clear hX1 hc
  go_enter Tryz.func8, Tryz.ntmps8
  have B1 := Below.refl w.heap.size w
  go_upto_region 4 with fail
  have B2 := B1.alloc B1.size (.cells #[.int .u32 167772161, .int .u16 5] 26)
  clear B1
  have B3 := B2.alloc B2.size (.cells #[.int .u32 16909060, .int .u16 53] 26)
  clear B2
  have hs_ : ((w.alloc (.cells #[.int .u32 167772161, .int .u16 5] 26)).alloc (.cells #[.int .u32 16909060, .int .u16 53] 26)).heap.size = w.heap.size + 2 := by simp
  have C_4 := Box4.make ((w.alloc (.cells #[.int .u32 167772161, .int .u16 5] 26)).alloc (.cells #[.int .u32 16909060, .int .u16 53] 26)) (.int .u32 84281096) (.int .u16 9000) (.int .u32 16909060) (.int .u16 53) 28
  rw [hs_] at C_4
  clear hs_
  have B5 := B3.alloc B3.size (.cells #[.int .u32 84281096, .int .u16 9000, .int .u32 16909060, .int .u16 53] 28)
  clear B3
  have C_6 := C_4.past (o := (.cells #[.int .u8 17, .int .u32 167772161, .int .u16 5, .int .u32 16909060, .int .u16 53] 36))
  have hs_ : (((w.alloc (.cells #[.int .u32 167772161, .int .u16 5] 26)).alloc (.cells #[.int .u32 16909060, .int .u16 53] 26)).alloc (.cells #[.int .u32 84281096, .int .u16 9000, .int .u32 16909060, .int .u16 53] 28)).heap.size = w.heap.size + 3 := by simp
  have T_7 := Box5.make (((w.alloc (.cells #[.int .u32 167772161, .int .u16 5] 26)).alloc (.cells #[.int .u32 16909060, .int .u16 53] 26)).alloc (.cells #[.int .u32 84281096, .int .u16 9000, .int .u32 16909060, .int .u16 53] 28)) (.int .u8 17) (.int .u32 167772161) (.int .u16 5) (.int .u32 16909060) (.int .u16 53) 36
  rw [hs_] at T_7
  clear hs_
  have B8 := B5.alloc B5.size (.cells #[.int .u8 17, .int .u32 167772161, .int .u16 5, .int .u32 16909060, .int .u16 53] 36)
  clear C_4 B5
  have fzT_9 : ∀ i, ((((w.alloc (.cells #[.int .u32 167772161, .int .u16 5] 26)).alloc (.cells #[.int .u32 16909060, .int .u16 53] 26)).alloc (.cells #[.int .u32 84281096, .int .u16 9000, .int .u32 16909060, .int .u16 53] 28)).alloc (.cells #[.int .u8 17, .int .u32 167772161, .int .u16 5, .int .u32 16909060, .int .u16 53] 36)).frozen? ⟨(w.heap.size + 1 + 1 + 1), i, none⟩ = false := by intro i; simp [go_sem]
  obtain ⟨u1, hu1⟩ : ∃ x, x = (((w.alloc (.cells #[.int .u32 167772161, .int .u16 5] 26)).alloc (.cells #[.int .u32 16909060, .int .u16 53] 26)).alloc (.cells #[.int .u32 84281096, .int .u16 9000, .int .u32 16909060, .int .u16 53] 28)).alloc (.cells #[.int .u8 17, .int .u32 167772161, .int .u16 5, .int .u32 16909060, .int .u16 53] 36) := ⟨_, rfl⟩
  rw [← hu1] at C_6 T_7 fzT_9 B8 ⊢
  clear hu1
  have C_l : Box4 u1 (w.heap.size + 1 + 1) (.int .u32 84281096) (.int .u16 9000) (.int .u32 16909060) (.int .u16 53) := C_6
  have T_l : Box5 u1 (w.heap.size + 1 + 1 + 1) (.int .u8 17) (.int .u32 167772161) (.int .u16 5) (.int .u32 16909060) (.int .u16 53) := T_7
  clear T_7 C_6
  obtain ⟨at_, hat⟩ : ∃ x, x = w.heap.size + 1 + 1 + 1 := ⟨_, rfl⟩
  rw [← hat] at T_l fzT_9 ⊢
  obtain ⟨ac_, hac⟩ : ∃ x, x = w.heap.size + 1 + 1 := ⟨_, rfl⟩
  rw [← hac] at C_l ⊢
  have ne1_ : ¬ at_ = ac_ := by omega
  have ne2_ : ¬ ac_ = at_ := by omega
  have Lt_ := Lib.hid (show w.heap.size ≤ at_ by omega)
  clear hat hac
  have HT := ht.on B8
  obtain ⟨zc, gc0, gc1, gc2, gc3⟩ := id C_l
  have Fc0 : ∀ x : Later u1.heap.size u1, x.u.cell? ⟨ac_, 0, none⟩ = some (.int .u32 84281096) := fun x => x.block zc gc0
  have Fc1 : ∀ x : Later u1.heap.size u1, x.u.cell? ⟨ac_, 1, none⟩ = some (.int .u16 9000) := fun x => x.block zc gc1
  have Fc2 : ∀ x : Later u1.heap.size u1, x.u.cell? ⟨ac_, 2, none⟩ = some (.int .u32 16909060) := fun x => x.block zc gc2
  have Fc3 : ∀ x : Later u1.heap.size u1, x.u.cell? ⟨ac_, 3, none⟩ = some (.int .u16 53) := fun x => x.block zc gc3
  clear gc0 gc1 gc2 gc3
  obtain ⟨zt, gt0, gt1, gt2, gt3, gt4⟩ := id T_l
  have Ft0 : ∀ x : Later u1.heap.size u1, x.u.cell? ⟨at_, 0, none⟩ = some (.int .u8 17) := fun x => x.block zt gt0
  have Ft1 : ∀ x : Later u1.heap.size u1, x.u.cell? ⟨at_, 1, none⟩ = some (.int .u32 167772161) := fun x => x.block zt gt1
  have Ft2 : ∀ x : Later u1.heap.size u1, x.u.cell? ⟨at_, 2, none⟩ = some (.int .u16 5) := fun x => x.block zt gt2
  have Ft3 : ∀ x : Later u1.heap.size u1, x.u.cell? ⟨at_, 3, none⟩ = some (.int .u32 16909060) := fun x => x.block zt gt3
  have Ft4 : ∀ x : Later u1.heap.size u1, x.u.cell? ⟨at_, 4, none⟩ = some (.int .u16 53) := fun x => x.block zt gt4
  clear gt0 gt1 gt2 gt3 gt4
  refine region_later (B := u1.heap.size) (by kernel_rfl) (by kernel_rfl) ?_
  repeat (go_big_quiet_step (first
    | (go_at_call 17; exact later_of _ (Nat.le_refl _) (cm1 _))
    | (go_at_call 9; exact later_of _ (Nat.le_refl _) (ca1 _ (HT.on (Later.h _))))))
  refine later_end fun w1 x1 => ?_
  have fzT_10 : ∀ i, w1.frozen? ⟨at_, i, none⟩ = false := fun i => (x1.frozen (p := ⟨_, i, none⟩) T_l.1).trans (fzT_9 i)
  clear fzT_9
  have C_11 := C_l.on x1
  have T_12 := T_l.on x1
  have B13 := B8.trans (x1.mono B8.size)
  clear Fc0 Fc1 Fc2 Fc3 zc Ft0 Ft1 Ft2 Ft3 Ft4 zt C_l T_l B8 x1
  clear HT cm1 ca1
  go_wp2_with fail
  have HT := ht.on B13
  obtain ⟨zc, gc0, gc1, gc2, gc3⟩ := id C_11
  have Fc0 : ∀ x : Later w1.heap.size w1, x.u.cell? ⟨ac_, 0, none⟩ = some (.int .u32 84281096) := fun x => x.block zc gc0
  have Fc1 : ∀ x : Later w1.heap.size w1, x.u.cell? ⟨ac_, 1, none⟩ = some (.int .u16 9000) := fun x => x.block zc gc1
  have Fc2 : ∀ x : Later w1.heap.size w1, x.u.cell? ⟨ac_, 2, none⟩ = some (.int .u32 16909060) := fun x => x.block zc gc2
  have Fc3 : ∀ x : Later w1.heap.size w1, x.u.cell? ⟨ac_, 3, none⟩ = some (.int .u16 53) := fun x => x.block zc gc3
  clear gc0 gc1 gc2 gc3
  obtain ⟨zt, gt0, gt1, gt2, gt3, gt4⟩ := id T_12
  have Ft0 : ∀ x : Later w1.heap.size w1, x.u.cell? ⟨at_, 0, none⟩ = some (.int .u8 17) := fun x => x.block zt gt0
  have Ft1 : ∀ x : Later w1.heap.size w1, x.u.cell? ⟨at_, 1, none⟩ = some (.int .u32 167772161) := fun x => x.block zt gt1
  have Ft2 : ∀ x : Later w1.heap.size w1, x.u.cell? ⟨at_, 2, none⟩ = some (.int .u16 5) := fun x => x.block zt gt2
  have Ft3 : ∀ x : Later w1.heap.size w1, x.u.cell? ⟨at_, 3, none⟩ = some (.int .u32 16909060) := fun x => x.block zt gt3
  have Ft4 : ∀ x : Later w1.heap.size w1, x.u.cell? ⟨at_, 4, none⟩ = some (.int .u16 53) := fun x => x.block zt gt4
  clear gt0 gt1 gt2 gt3 gt4
  refine region_later (B := w1.heap.size) (by kernel_rfl) (by kernel_rfl) ?_
  repeat (go_big_quiet_step (first
    | (go_at_call 17; exact later_of _ (Nat.le_refl _) (cm2 _))
    | (go_at_call 9; exact later_of _ (Nat.le_refl _) (ca2 _ (HT.on (Later.h _))))))
  refine later_end fun w2 x2 => ?_
  have fzT_14 : ∀ i, w2.frozen? ⟨at_, i, none⟩ = false := fun i => (x2.frozen (p := ⟨_, i, none⟩) T_12.1).trans (fzT_10 i)
  clear fzT_10
  have C_15 := C_11.on x2
  have T_16 := T_12.on x2
  have B17 := B13.trans (x2.mono B13.size)
  clear Fc0 Fc1 Fc2 Fc3 zc Ft0 Ft1 Ft2 Ft3 Ft4 zt C_11 T_12 B13 x2
  clear HT cm2 ca2
  obtain ⟨_, c1_0, c1_1, c1_2, c1_3⟩ := id C_15
  go_wp2_with fail
  refine (ca3 _ (ht.on B17)).mono ?_; rintro e w3 ⟨rfl, x3⟩
  have fzT_18 : ∀ i, w3.frozen? ⟨at_, i, none⟩ = false := fun i => (x3.frozen (p := ⟨_, i, none⟩) T_16.1).trans (fzT_14 i)
  clear fzT_14
  have C_19 := C_15.on x3
  have T_20 := T_16.on x3
  have B21 := B17.trans (x3.mono B17.size)
  clear c1_0 c1_1 c1_2 c1_3 C_15 T_16 B17 x3
  clear ca3
  obtain ⟨_, t2_0, t2_1, t2_2, t2_3, t2_4⟩ := id T_20
  go_upto_region 8 with fail
  clear t2_0 t2_1 t2_2 t2_3 t2_4
  obtain ⟨_, c3_0, c3_1, c3_2, c3_3⟩ := id C_19
  obtain ⟨_, t4_0, t4_1, t4_2, t4_3, t4_4⟩ := id T_20
  have B22 := (((B21.setCell (p := ⟨at_, 0, none⟩) Lt_.out (.int .u8 1)).setCell (p := ⟨at_, 2, none⟩) Lt_.out (.int .u16 7)).setCell (p := ⟨at_, 4, none⟩) Lt_.out (.int .u16 0))
  have C_23 : Box4 (((w3.setCell ⟨at_, 0, none⟩ (.int .u8 1)).setCell ⟨at_, 2, none⟩ (.int .u16 7)).setCell ⟨at_, 4, none⟩ (.int .u16 0)) ac_ (.int .u32 84281096) (.int .u16 9000) (.int .u32 16909060) (.int .u16 53) := ⟨by have := C_19.1; simpa using this, by simp [go_sem, c3_0, c3_1, c3_2, c3_3, t4_0, t4_1, t4_2, t4_3, t4_4], by simp [go_sem, c3_0, c3_1, c3_2, c3_3, t4_0, t4_1, t4_2, t4_3, t4_4], by simp [go_sem, c3_0, c3_1, c3_2, c3_3, t4_0, t4_1, t4_2, t4_3, t4_4], by simp [go_sem, c3_0, c3_1, c3_2, c3_3, t4_0, t4_1, t4_2, t4_3, t4_4]⟩
  have T_24 : Box5 (((w3.setCell ⟨at_, 0, none⟩ (.int .u8 1)).setCell ⟨at_, 2, none⟩ (.int .u16 7)).setCell ⟨at_, 4, none⟩ (.int .u16 0)) at_ (.int .u8 1) (.int .u32 167772161) (.int .u16 7) (.int .u32 16909060) (.int .u16 0) := ⟨by have := T_20.1; simpa using this, by simp [go_sem, c3_0, c3_1, c3_2, c3_3, t4_0, t4_1, t4_2, t4_3, t4_4], by simp [go_sem, c3_0, c3_1, c3_2, c3_3, t4_0, t4_1, t4_2, t4_3, t4_4], by simp [go_sem, c3_0, c3_1, c3_2, c3_3, t4_0, t4_1, t4_2, t4_3, t4_4], by simp [go_sem, c3_0, c3_1, c3_2, c3_3, t4_0, t4_1, t4_2, t4_3, t4_4], by simp [go_sem, c3_0, c3_1, c3_2, c3_3, t4_0, t4_1, t4_2, t4_3, t4_4]⟩
  have fzT_25 : ∀ i, (((w3.setCell ⟨at_, 0, none⟩ (.int .u8 1)).setCell ⟨at_, 2, none⟩ (.int .u16 7)).setCell ⟨at_, 4, none⟩ (.int .u16 0)).frozen? ⟨at_, i, none⟩ = false := by intro i; simp [fzT_18]
  clear c3_0 c3_1 c3_2 c3_3 t4_0 t4_1 t4_2 t4_3 t4_4 C_19 T_20 fzT_18 B21
  obtain ⟨u4, hu4⟩ : ∃ x, x = (((w3.setCell ⟨at_, 0, none⟩ (.int .u8 1)).setCell ⟨at_, 2, none⟩ (.int .u16 7)).setCell ⟨at_, 4, none⟩ (.int .u16 0)) := ⟨_, rfl⟩
  rw [← hu4] at C_23 T_24 fzT_25 B22 ⊢
  clear hu4
  have HT := ht.on B22
  obtain ⟨zc, gc0, gc1, gc2, gc3⟩ := id C_23
  have Fc0 : ∀ x : Later u4.heap.size u4, x.u.cell? ⟨ac_, 0, none⟩ = some (.int .u32 84281096) := fun x => x.block zc gc0
  have Fc1 : ∀ x : Later u4.heap.size u4, x.u.cell? ⟨ac_, 1, none⟩ = some (.int .u16 9000) := fun x => x.block zc gc1
  have Fc2 : ∀ x : Later u4.heap.size u4, x.u.cell? ⟨ac_, 2, none⟩ = some (.int .u32 16909060) := fun x => x.block zc gc2
  have Fc3 : ∀ x : Later u4.heap.size u4, x.u.cell? ⟨ac_, 3, none⟩ = some (.int .u16 53) := fun x => x.block zc gc3
  clear gc0 gc1 gc2 gc3
  obtain ⟨zt, gt0, gt1, gt2, gt3, gt4⟩ := id T_24
  have Ft0 : ∀ x : Later u4.heap.size u4, x.u.cell? ⟨at_, 0, none⟩ = some (.int .u8 1) := fun x => x.block zt gt0
  have Ft1 : ∀ x : Later u4.heap.size u4, x.u.cell? ⟨at_, 1, none⟩ = some (.int .u32 167772161) := fun x => x.block zt gt1
  have Ft2 : ∀ x : Later u4.heap.size u4, x.u.cell? ⟨at_, 2, none⟩ = some (.int .u16 7) := fun x => x.block zt gt2
  have Ft3 : ∀ x : Later u4.heap.size u4, x.u.cell? ⟨at_, 3, none⟩ = some (.int .u32 16909060) := fun x => x.block zt gt3
  have Ft4 : ∀ x : Later u4.heap.size u4, x.u.cell? ⟨at_, 4, none⟩ = some (.int .u16 0) := fun x => x.block zt gt4
  clear gt0 gt1 gt2 gt3 gt4
  refine region_later (B := u4.heap.size) (by kernel_rfl) (by kernel_rfl) ?_
  repeat (go_big_quiet_step (first
    | (go_at_call 17; exact later_of _ (Nat.le_refl _) (cm4 _))
    | (go_at_call 9; exact later_of _ (Nat.le_refl _) (ca4 _ (HT.on (Later.h _))))))
  refine later_end fun w5 x5 => ?_
  have fzT_26 : ∀ i, w5.frozen? ⟨at_, i, none⟩ = false := fun i => (x5.frozen (p := ⟨_, i, none⟩) T_24.1).trans (fzT_25 i)
  clear fzT_25
  have C_27 := C_23.on x5
  have T_28 := T_24.on x5
  have B29 := B22.trans (x5.mono B22.size)
  clear Fc0 Fc1 Fc2 Fc3 zc Ft0 Ft1 Ft2 Ft3 Ft4 zt C_23 T_24 B22 x5
  clear HT cm4 ca4
  obtain ⟨_, t5_0, t5_1, t5_2, t5_3, t5_4⟩ := id T_28
  go_upto_region 10 with fail
  clear t5_0 t5_1 t5_2 t5_3 t5_4
  obtain ⟨_, c6_0, c6_1, c6_2, c6_3⟩ := id C_27
  obtain ⟨_, t7_0, t7_1, t7_2, t7_3, t7_4⟩ := id T_28
  have B30 := ((B29.setCell (p := ⟨at_, 2, none⟩) Lt_.out (.int .u16 0)).setCell (p := ⟨at_, 4, none⟩) Lt_.out (.int .u16 7))
  have C_31 : Box4 ((w5.setCell ⟨at_, 2, none⟩ (.int .u16 0)).setCell ⟨at_, 4, none⟩ (.int .u16 7)) ac_ (.int .u32 84281096) (.int .u16 9000) (.int .u32 16909060) (.int .u16 53) := ⟨by have := C_27.1; simpa using this, by simp [go_sem, c6_0, c6_1, c6_2, c6_3, t7_0, t7_1, t7_2, t7_3, t7_4], by simp [go_sem, c6_0, c6_1, c6_2, c6_3, t7_0, t7_1, t7_2, t7_3, t7_4], by simp [go_sem, c6_0, c6_1, c6_2, c6_3, t7_0, t7_1, t7_2, t7_3, t7_4], by simp [go_sem, c6_0, c6_1, c6_2, c6_3, t7_0, t7_1, t7_2, t7_3, t7_4]⟩
  have T_32 : Box5 ((w5.setCell ⟨at_, 2, none⟩ (.int .u16 0)).setCell ⟨at_, 4, none⟩ (.int .u16 7)) at_ (.int .u8 1) (.int .u32 167772161) (.int .u16 0) (.int .u32 16909060) (.int .u16 7) := ⟨by have := T_28.1; simpa using this, by simp [go_sem, c6_0, c6_1, c6_2, c6_3, t7_0, t7_1, t7_2, t7_3, t7_4], by simp [go_sem, c6_0, c6_1, c6_2, c6_3, t7_0, t7_1, t7_2, t7_3, t7_4], by simp [go_sem, c6_0, c6_1, c6_2, c6_3, t7_0, t7_1, t7_2, t7_3, t7_4], by simp [go_sem, c6_0, c6_1, c6_2, c6_3, t7_0, t7_1, t7_2, t7_3, t7_4], by simp [go_sem, c6_0, c6_1, c6_2, c6_3, t7_0, t7_1, t7_2, t7_3, t7_4]⟩
  have fzT_33 : ∀ i, ((w5.setCell ⟨at_, 2, none⟩ (.int .u16 0)).setCell ⟨at_, 4, none⟩ (.int .u16 7)).frozen? ⟨at_, i, none⟩ = false := by intro i; simp [fzT_26]
  clear c6_0 c6_1 c6_2 c6_3 t7_0 t7_1 t7_2 t7_3 t7_4 C_27 T_28 fzT_26 B29
  obtain ⟨u6, hu6⟩ : ∃ x, x = ((w5.setCell ⟨at_, 2, none⟩ (.int .u16 0)).setCell ⟨at_, 4, none⟩ (.int .u16 7)) := ⟨_, rfl⟩
  rw [← hu6] at C_31 T_32 fzT_33 B30 ⊢
  clear hu6
  have HT := ht.on B30
  obtain ⟨zc, gc0, gc1, gc2, gc3⟩ := id C_31
  have Fc0 : ∀ x : Later u6.heap.size u6, x.u.cell? ⟨ac_, 0, none⟩ = some (.int .u32 84281096) := fun x => x.block zc gc0
  have Fc1 : ∀ x : Later u6.heap.size u6, x.u.cell? ⟨ac_, 1, none⟩ = some (.int .u16 9000) := fun x => x.block zc gc1
  have Fc2 : ∀ x : Later u6.heap.size u6, x.u.cell? ⟨ac_, 2, none⟩ = some (.int .u32 16909060) := fun x => x.block zc gc2
  have Fc3 : ∀ x : Later u6.heap.size u6, x.u.cell? ⟨ac_, 3, none⟩ = some (.int .u16 53) := fun x => x.block zc gc3
  clear gc0 gc1 gc2 gc3
  obtain ⟨zt, gt0, gt1, gt2, gt3, gt4⟩ := id T_32
  have Ft0 : ∀ x : Later u6.heap.size u6, x.u.cell? ⟨at_, 0, none⟩ = some (.int .u8 1) := fun x => x.block zt gt0
  have Ft1 : ∀ x : Later u6.heap.size u6, x.u.cell? ⟨at_, 1, none⟩ = some (.int .u32 167772161) := fun x => x.block zt gt1
  have Ft2 : ∀ x : Later u6.heap.size u6, x.u.cell? ⟨at_, 2, none⟩ = some (.int .u16 0) := fun x => x.block zt gt2
  have Ft3 : ∀ x : Later u6.heap.size u6, x.u.cell? ⟨at_, 3, none⟩ = some (.int .u32 16909060) := fun x => x.block zt gt3
  have Ft4 : ∀ x : Later u6.heap.size u6, x.u.cell? ⟨at_, 4, none⟩ = some (.int .u16 7) := fun x => x.block zt gt4
  clear gt0 gt1 gt2 gt3 gt4
  refine region_later (B := u6.heap.size) (by kernel_rfl) (by kernel_rfl) ?_
  repeat (go_big_quiet_step (first
    | (go_at_call 17; exact later_of _ (Nat.le_refl _) (cm5 _))
    | (go_at_call 9; exact later_of _ (Nat.le_refl _) (ca5 _ (HT.on (Later.h _))))))
  refine later_end fun w7 x7 => ?_
  have fzT_34 : ∀ i, w7.frozen? ⟨at_, i, none⟩ = false := fun i => (x7.frozen (p := ⟨_, i, none⟩) T_32.1).trans (fzT_33 i)
  clear fzT_33
  have C_35 := C_31.on x7
  have T_36 := T_32.on x7
  have B37 := B30.trans (x7.mono B30.size)
  clear Fc0 Fc1 Fc2 Fc3 zc Ft0 Ft1 Ft2 Ft3 Ft4 zt C_31 T_32 B30 x7
  clear HT cm5 ca5
  clear C_35 T_36
  clear fzT_34
  clear ne1_ ne2_ Lt_
  go_wp2_with fail
  refine (co1 _).mono ?_; rintro e w8 ⟨rfl, x8⟩
  have B38 := B37.trans (x8.mono B37.size)
  clear B37 x8
  clear co1
  have X_39 := Box9.make w8 (.int .u8 17) (.int .u32 84281096) (.int .u16 9000) (.int .u32 16909060) (.int .u16 53) (.int .i64 2) (.int .u8 0) (.bool false) (.int .u8 63) 38
  have B40 := B38.alloc B38.size (.cells #[.int .u8 17, .int .u32 84281096, .int .u16 9000, .int .u32 16909060, .int .u16 53, .int .i64 2, .int .u8 0, .bool false, .int .u8 63] 38)
  clear B38
  go_wp2_with fail
  refine (co4 _).mono ?_; rintro e w9 ⟨rfl, x9⟩
  have X_41 := X_39.on x9
  have B42 := B40.trans (x9.mono B40.size)
  clear X_39 B40 x9
  clear co4
  have X_43 := X_41.past (o := (.cells #[.int .u8 1, .int .u32 84281096, .int .u16 9000, .int .u32 16909060, .int .u16 0, .int .i64 2, .int .u8 0, .bool true, .int .u8 63] 38))
  have Y_44 := Box9.make w9 (.int .u8 1) (.int .u32 84281096) (.int .u16 9000) (.int .u32 16909060) (.int .u16 0) (.int .i64 2) (.int .u8 0) (.bool true) (.int .u8 63) 38
  have B45 := B42.alloc B42.size (.cells #[.int .u8 1, .int .u32 84281096, .int .u16 9000, .int .u32 16909060, .int .u16 0, .int .i64 2, .int .u8 0, .bool true, .int .u8 63] 38)
  clear X_41 B42
  go_wp2_with fail
  refine (co5 _).mono ?_; rintro e w10 ⟨rfl, x10⟩
  have X_46 := X_43.on x10
  have Y_47 := Y_44.on x10
  have B48 := B45.trans (x10.mono B45.size)
  clear X_43 Y_44 B45 x10
  clear co5
  have X_49 := X_46.past (o := (.cells #[.int .u8 1, .int .u32 84281096, .int .u16 0, .int .u32 16909060, .int .u16 53, .int .i64 2, .int .u8 0, .bool false, .int .u8 63] 38))
  have Y_50 := Y_47.past (o := (.cells #[.int .u8 1, .int .u32 84281096, .int .u16 0, .int .u32 16909060, .int .u16 53, .int .i64 2, .int .u8 0, .bool false, .int .u8 63] 38))
  have V_51 := Box9.make w10 (.int .u8 1) (.int .u32 84281096) (.int .u16 0) (.int .u32 16909060) (.int .u16 53) (.int .i64 2) (.int .u8 0) (.bool false) (.int .u8 63) 38
  have B52 := B48.alloc B48.size (.cells #[.int .u8 1, .int .u32 84281096, .int .u16 0, .int .u32 16909060, .int .u16 53, .int .i64 2, .int .u8 0, .bool false, .int .u8 63] 38)
  clear X_46 Y_47 B48
  obtain ⟨_, x8_0, x8_1, x8_2, x8_3, x8_4, x8_5, x8_6, x8_7, x8_8⟩ := id X_49
  obtain ⟨_, y9_0, y9_1, y9_2, y9_3, y9_4, y9_5, y9_6, y9_7, y9_8⟩ := id Y_50
  obtain ⟨_, v10_0, v10_1, v10_2, v10_3, v10_4, v10_5, v10_6, v10_7, v10_8⟩ := id V_51
  go_wp2_with fail
  refine (ct _ (ht.on B52)).mono ?_; rintro e w11 ⟨rfl, x11⟩
  have X_53 := X_49.on x11
  have Y_54 := Y_50.on x11
  have V_55 := V_51.on x11
  have B56 := B52.trans (x11.mono B52.size)
  clear x8_0 x8_1 x8_2 x8_3 x8_4 x8_5 x8_6 x8_7 x8_8 y9_0 y9_1 y9_2 y9_3 y9_4 y9_5 y9_6 y9_7 y9_8 v10_0 v10_1 v10_2 v10_3 v10_4 v10_5 v10_6 v10_7 v10_8 X_49 Y_50 V_51 B52 x11
  obtain ⟨_, x11_0, x11_1, x11_2, x11_3, x11_4, x11_5, x11_6, x11_7, x11_8⟩ := id X_53
  obtain ⟨_, y12_0, y12_1, y12_2, y12_3, y12_4, y12_5, y12_6, y12_7, y12_8⟩ := id Y_54
  obtain ⟨_, v13_0, v13_1, v13_2, v13_3, v13_4, v13_5, v13_6, v13_7, v13_8⟩ := id V_55
  go_wp2
  go_ret
  exact ⟨rfl, B56⟩
end Go.Proofs.YtbglnebmfnoenaaGreatDoor

namespace Go.Proofs.YtbglnebmfnoenaaGreatDoor
set_option linter.unusedVariables false
set_option linter.unusedSimpArgs false
open Go.ChangeShapes Go.WideShapes Go.ChangeAt Go.RowKit Go.PlainAid
attribute [local go_sem ↓] Go.wp_at_zero Go.wp_at_succ
set_option maxHeartbeats 4000000 in
set_option maxRecDepth 100000 in
theorem sumAt_ (s : ByteArray) (w : World) (hr : seenR s = 0) (hs : s.size ≤ 1000000) :
    Calls Tryz.prog 15 #[.string s] w fun e w' => e = .returned (.int .i64 (kAt s : Int)) ∧ Below w.heap.size w w' := by
  have co := fun u => of8_ s u hs
  obtain ⟨n1, n2⟩ := s_yes hr
  rw [n1, n1, n1, n1, n1, n1, n1, n1, n2] at co
  clear n1 n2
  have z := (ip_facts (seen_ip hr).1).1
  have b0 := bt_nonneg s 0
  have b1 := bt_le s 0
  have e5 := u8_and15 (bt s 0) b0 b1
  have f3 : bt s 0 % 16 * 4 = (ownN s : Int) := by unfold ownN; omega
  have o60 : ownN s ≤ 60 := by omega
  have hg := get_bt s
  have i0 : (0 : Int) < (s.size : Int) := by omega
  have cs : (bt s 9 = 6 ∧ (kAt s : Int) = (ownN s : Int) + 16) ∨ (bt s 9 = 17 ∧ (kAt s : Int) = (ownN s : Int) + 6) ∨ (¬ bt s 9 = 6 ∧ ¬ bt s 9 = 17 ∧ oK (bt s 9) (pP s) = 3 ∧ (kAt s : Int) = 0) ∨ (¬ bt s 9 = 6 ∧ ¬ bt s 9 = 17 ∧ ¬ oK (bt s 9) (pP s) = 3 ∧ (kAt s : Int) = (ownN s : Int) + 2) := by
    unfold kAt
    by_cases c6 : bt s 9 = 6
    · left; exact ⟨c6, by rw [if_pos c6]; omega⟩
    · by_cases c17 : bt s 9 = 17
      · right; left; exact ⟨c17, by rw [if_neg c6, if_pos c17]; omega⟩
      · by_cases c3 : oK (bt s 9) (pP s) = 3
        · right; right; left; exact ⟨c6, c17, c3, by rw [if_neg c6, if_neg c17, if_pos c3]; rfl⟩
        · right; right; right; exact ⟨c6, c17, c3, by rw [if_neg c6, if_neg c17, if_neg c3]; omega⟩
  generalize (kAt s : Int) = K at *
  generalize oK (bt s 9) (pP s) = v5 at *
  generalize oM (bt s 9) (pP s) = v2 at *
  generalize oN (bt s 9) (pP s) = v4 at *
  generalize oF (bt s 9) (pP s) = v6 at *
  generalize oA (bt s 9) (pP s) = v7 at *
  generalize bt s 9 = v0 at *
  generalize g32 s 12 = v1 at *
  generalize g32 s 16 = v3 at *
  generalize bt s 8 = v8 at *
  generalize seenR s = q at *
  generalize ownN s = o at *
  clear hr hs z
  rcases cs with ⟨rfl, rfl⟩ | ⟨rfl, rfl⟩ | ⟨c6, c17, rfl, rfl⟩ | ⟨c6, c17, c3, rfl⟩
  · skip
    go_enter Tryz.func15, Tryz.ntmps15
    have B1 := Below.refl w.heap.size w
    go_wp2_with fail
    refine (co _).mono ?_; rintro e w1 ⟨rfl, x1⟩
    have B2 := B1.trans (x1.mono B1.size)
    clear B1 x1
    clear co
    have X_3 := Box9.make w1 (.int .u8 6) (.int .u32 v1) (.int .u16 v2) (.int .u32 v3) (.int .u16 v4) (.int .i64 v5) (.int .u8 v6) (.bool v7) (.int .u8 v8) 38
    have B4 := B2.alloc B2.size (.cells #[.int .u8 6, .int .u32 v1, .int .u16 v2, .int .u32 v3, .int .u16 v4, .int .i64 v5, .int .u8 v6, .bool v7, .int .u8 v8] 38)
    clear B2
    obtain ⟨_, x1_0, x1_1, x1_2, x1_3, x1_4, x1_5, x1_6, x1_7, x1_8⟩ := id X_3
    go_wp2
    go_ret
    exact ⟨rfl, B4⟩
  · skip
    go_enter Tryz.func15, Tryz.ntmps15
    have B1 := Below.refl w.heap.size w
    go_wp2_with fail
    refine (co _).mono ?_; rintro e w1 ⟨rfl, x1⟩
    have B2 := B1.trans (x1.mono B1.size)
    clear B1 x1
    clear co
    have X_3 := Box9.make w1 (.int .u8 17) (.int .u32 v1) (.int .u16 v2) (.int .u32 v3) (.int .u16 v4) (.int .i64 v5) (.int .u8 v6) (.bool v7) (.int .u8 v8) 38
    have B4 := B2.alloc B2.size (.cells #[.int .u8 17, .int .u32 v1, .int .u16 v2, .int .u32 v3, .int .u16 v4, .int .i64 v5, .int .u8 v6, .bool v7, .int .u8 v8] 38)
    clear B2
    obtain ⟨_, x1_0, x1_1, x1_2, x1_3, x1_4, x1_5, x1_6, x1_7, x1_8⟩ := id X_3
    go_wp2
    go_ret
    exact ⟨rfl, B4⟩
  · have e6 : (v0 == 6) = false := by simpa using c6
    have e17 : (v0 == 17) = false := by simpa using c17
    clear c6 c17
    go_enter Tryz.func15, Tryz.ntmps15
    have B1 := Below.refl w.heap.size w
    go_wp2_with fail
    refine (co _).mono ?_; rintro e w1 ⟨rfl, x1⟩
    have B2 := B1.trans (x1.mono B1.size)
    clear B1 x1
    clear co
    have X_3 := Box9.make w1 (.int .u8 v0) (.int .u32 v1) (.int .u16 v2) (.int .u32 v3) (.int .u16 v4) (.int .i64 3) (.int .u8 v6) (.bool v7) (.int .u8 v8) 38
    have B4 := B2.alloc B2.size (.cells #[.int .u8 v0, .int .u32 v1, .int .u16 v2, .int .u32 v3, .int .u16 v4, .int .i64 3, .int .u8 v6, .bool v7, .int .u8 v8] 38)
    clear B2
    obtain ⟨_, x1_0, x1_1, x1_2, x1_3, x1_4, x1_5, x1_6, x1_7, x1_8⟩ := id X_3
    go_wp2
    go_ret
    exact ⟨rfl, B4⟩
  · have e6 : (v0 == 6) = false := by simpa using c6
    have e17 : (v0 == 17) = false := by simpa using c17
    have e3 : (v5 == 3) = false := by simpa using c3
    clear c6 c17 c3
    go_enter Tryz.func15, Tryz.ntmps15
    have B1 := Below.refl w.heap.size w
    go_wp2_with fail
    refine (co _).mono ?_; rintro e w1 ⟨rfl, x1⟩
    have B2 := B1.trans (x1.mono B1.size)
    clear B1 x1
    clear co
    have X_3 := Box9.make w1 (.int .u8 v0) (.int .u32 v1) (.int .u16 v2) (.int .u32 v3) (.int .u16 v4) (.int .i64 v5) (.int .u8 v6) (.bool v7) (.int .u8 v8) 38
    have B4 := B2.alloc B2.size (.cells #[.int .u8 v0, .int .u32 v1, .int .u16 v2, .int .u32 v3, .int .u16 v4, .int .i64 v5, .int .u8 v6, .bool v7, .int .u8 v8] 38)
    clear B2
    obtain ⟨_, x1_0, x1_1, x1_2, x1_3, x1_4, x1_5, x1_6, x1_7, x1_8⟩ := id X_3
    go_wp2
    go_ret
    exact ⟨rfl, B4⟩
theorem conv_bts {w : World} {g n c : Nat} {T : ByteArray} (h : Bts w g n (bt T)) (hn : T.size = n) : (convert 46 9 (.slice (some ⟨g, 0, none⟩) n c)).run Tryz.prog w = .ok (.string T) w := by
  have xl : ((List.range n).map (bt T)).length = n := by simp
  have xg : ∀ i, i < n → ((List.range n).map (bt T)).getD i 0 = bt T i := by intro i hi; rw [getD_lt _ _ _ (by omega)]; simp
  have k := run_convert_bytes_arg (P := Tryz.prog) w 46 5 Tryz.underlying46 Tryz.underlying5 g 0 n c _ xl (by intro i hi; rw [Nat.zero_add, (h i hi).1, xg i hi]) 9 Tryz.underlying9
  have e : strOfNums ((List.range n).map (bt T)) = T := by
    refine ba_bt (by rw [strOfNums_size, xl, hn]) fun i hi => ?_
    rw [strOfNums_size, xl] at hi
    rw [bt_nums _ _ (by
      intro x hx
      obtain ⟨j, _, rfl⟩ := List.mem_map.1 hx
      exact ⟨bt_nonneg T j, bt_le T j⟩), xg i hi]
  rw [e] at k
  exact k
theorem plB0_bt {s : ByteArray} (h : 20 ≤ s.size) (j : Nat) : bt (plB0 s) j = if j = 11 then 0 else if j = 10 then 0 else if j = 8 then 0 else bt s j := by
  have e1 : (withB s 8 (strOfNums [0])).size = s.size := size_withB s 8 _ (by rw [strOfNums_size]; show 8 + 1 ≤ _; omega)
  have z1 : (strOfNums [0]).size = 1 := rfl
  have z2 : (strOfNums (wordL [0])).size = 2 := rfl
  have w0 : ∀ i, bt (strOfNums (wordL [0])) i = 0 := by
    intro i
    rw [bt_nums _ _ (by decide)]
    match i with
    | 0 => rfl
    | 1 => rfl
    | i + 2 => rfl
  have w1 : ∀ i, bt (strOfNums [0]) i = 0 := by
    intro i
    rw [bt_nums _ _ (by decide)]
    match i with
    | 0 => rfl
    | i + 1 => rfl
  unfold plB0
  rw [bt_with _ _ _ _ (by rw [e1, z2]; omega), bt_with _ _ _ _ (by rw [z1]; omega), z1, z2, w0, w1]
  by_cases c11 : j = 11
  · rw [if_pos (by omega), if_pos c11]
  rw [if_neg c11]
  by_cases c10 : j = 10
  · rw [if_pos (by omega), if_pos c10]
  rw [if_neg (by omega), if_neg c10]
  by_cases c8 : j = 8
  · rw [if_pos (by omega), if_pos c8]
  rw [if_neg (by omega), if_neg c8]
theorem plB1_bt {T : ByteArray} {k : Nat} (h : k + 2 ≤ T.size) (j : Nat) : bt (withB T k (strOfNums (wordL [0]))) j = if j = k + 1 then 0 else if j = k then 0 else bt T j := by
  have z2 : (strOfNums (wordL [0])).size = 2 := rfl
  have w0 : ∀ i, bt (strOfNums (wordL [0])) i = 0 := by
    intro i
    rw [bt_nums _ _ (by decide)]
    match i with
    | 0 => rfl
    | 1 => rfl
    | i + 2 => rfl
  rw [bt_with _ _ _ _ (by rw [z2]; omega), z2, w0]
  by_cases c1 : j = k + 1
  · rw [if_pos (by omega), if_pos c1]
  rw [if_neg c1]
  by_cases c0 : j = k
  · rw [if_pos (by omega), if_pos c0]
  rw [if_neg (by omega), if_neg c0]
set_option maxHeartbeats 4000000 in
set_option maxRecDepth 100000 in
theorem plain_ (s : ByteArray) (w : World) (hr : seenR s = 0) (hs : s.size ≤ 1000000) :
    Calls Tryz.prog 16 #[.string s] w fun e w' => e = .returned (.string (plB s)) ∧ Below w.heap.size w w' := by
  have ck := fun u => sumAt_ s u hr hs
  have z := (ip_facts (seen_ip hr).1).1
  have hp := (seen_ip hr).1
  have ki := kAt_kq hr
  have kn := kq_in hr
  have fa := ip_facts hp
  have pz : (pP s).size ≤ s.size - ownN s := by
    rw [(p_yes hp).2.2.2, ByteArray.size_extract]; omega
  have kk : kAt s = 0 ∨ (22 ≤ kAt s ∧ kAt s + 1 < s.size) := by
    rcases ki with ⟨a1, a2⟩ | ⟨a1, a2⟩
    · exact .inl a2
    · have := kn a1
      exact .inr ⟨by omega, by omega⟩
  have cs : (∃ k : Nat, kAt s = k ∧ 22 ≤ k ∧ k + 1 < s.size ∧ ((¬ bt s k = 255 ∧ plB s = plB0 s) ∨ (bt s k = 255 ∧ ¬ bt s (k + 1) = 255 ∧ plB s = plB0 s) ∨ (bt s k = 255 ∧ bt s (k + 1) = 255 ∧ plB s = withB (plB0 s) k (strOfNums (wordL [0]))))) ∨ (kAt s = 0 ∧ plB s = plB0 s) := by
    rcases kk with c0 | ⟨c0, c1⟩
    · exact .inr ⟨c0, by unfold plB; rw [if_neg (by omega)]⟩
    · refine .inl ⟨kAt s, rfl, c0, c1, ?_⟩
      by_cases d0 : bt s (kAt s) = 255
      · by_cases d1 : bt s (kAt s + 1) = 255
        · exact .inr (.inr ⟨d0, d1, by unfold plB; rw [if_pos ⟨by omega, c1, d0, d1⟩]⟩)
        · exact .inr (.inl ⟨d0, d1, by unfold plB; rw [if_neg (fun h => d1 h.2.2.2)]⟩)
      · exact .inl ⟨d0, by unfold plB; rw [if_neg (fun h => d0 h.2.2.1)]⟩
  have zp := plB0_size z
  have pb := Lib.hid (fun j => plB0_bt z j)
  clear ki kn fa pz kk hp
  obtain ⟨w1, c, hconv, B1, hlt, HB⟩ := bytes_of_string s w
  have HBB := Lib.hid HB
  have i8 : (8 : Int) < (s.size : Int) := by omega
  have i10 : (10 : Int) < (s.size : Int) := by omega
  have i11 : (11 : Int) < (s.size : Int) := by omega
  clear HB hr
  generalize plB s = P at *
  generalize plB0 s = Q at *
  rcases cs with ⟨k, e0, k22, k1, h⟩ | ⟨e0, rfl⟩
  rotate_left
  · rw [e0] at ck
    clear e0
    go_enter Tryz.func16, Tryz.ntmps16
    go_wp2_with fail
    refine (ck _).mono ?_; rintro e w2 ⟨rfl, x2⟩
    have HB2 : Bts w2 w.heap.size s.size (bt s) := fun i hi => ⟨(x2.cell (p := ⟨_, i, none⟩) hlt).trans (HBB.out i hi).1, (x2.frozen (p := ⟨_, i, none⟩) hlt).trans (HBB.out i hi).2⟩
    have B2 := B1.trans (x2.mono B1.size)
    obtain ⟨c8, f8⟩ := HB2 8 (by omega)
    obtain ⟨c10, f10⟩ := HB2 10 (by omega)
    obtain ⟨c11, f11⟩ := HB2 11 (by omega)
    have HH := Lib.hid HB2
    clear HB2 hconv ck x2 B1 HBB hlt
    go_upto_region 4 with fail
    clear c8 f8 c10 f10 c11 f11
    have HB3 : Bts (((w2.setCell ⟨w.heap.size, 8, none⟩ (.int .u8 0)).setCell ⟨w.heap.size, 10, none⟩ (.int .u8 0)).setCell ⟨w.heap.size, 11, none⟩ (.int .u8 0)) w.heap.size s.size (bt P) := (((HH.out.set 8 0 (by omega)).set 10 0 (by omega)).set 11 0 (by omega)).congr fun j _ => by rw [pb.out j]
    have B3 := ((B2.setCell (p := ⟨w.heap.size, 8, none⟩) (Nat.le_refl _) (.int .u8 0)).setCell (p := ⟨w.heap.size, 10, none⟩) (Nat.le_refl _) (.int .u8 0)).setCell (p := ⟨w.heap.size, 11, none⟩) (Nat.le_refl _) (.int .u8 0)
    obtain ⟨w3, hw3⟩ : ∃ x, x = ((w2.setCell ⟨w.heap.size, 8, none⟩ (.int .u8 0)).setCell ⟨w.heap.size, 10, none⟩ (.int .u8 0)).setCell ⟨w.heap.size, 11, none⟩ (.int .u8 0) := ⟨_, rfl⟩
    rw [← hw3] at HB3 B3 ⊢
    clear hw3 HH B2
    have hv := conv_bts (c := c) HB3 zp
    clear HB3 zp pb
    go_wp2
    go_ret
    exact ⟨rfl, B3⟩
  rw [e0] at ck
  have g0 : (0 : Int) < (k : Int) := by omega
  have g1 : (k : Int) + 1 < (s.size : Int) := by omega
  have g2 : (k : Int) < (s.size : Int) := by omega
  have g3 : wrap64 ((k : Int) + 1) = (k : Int) + 1 := IntWalk.wrap64_in _ (by omega)
  have g4 : ((k : Int) + 1).toNat = k + 1 := by omega
  have d0 : bt Q k = bt s k := by rw [pb.out k, if_neg (by omega), if_neg (by omega), if_neg (by omega)]
  have d1 : bt Q (k + 1) = bt s (k + 1) := by rw [pb.out (k + 1), if_neg (by omega), if_neg (by omega), if_neg (by omega)]
  clear e0
  rcases h with ⟨n0, rfl⟩ | ⟨n0, n1, rfl⟩ | ⟨n0, n1, rfl⟩
  · go_enter Tryz.func16, Tryz.ntmps16
    go_wp2_with fail
    refine (ck _).mono ?_; rintro e w2 ⟨rfl, x2⟩
    have HB2 : Bts w2 w.heap.size s.size (bt s) := fun i hi => ⟨(x2.cell (p := ⟨_, i, none⟩) hlt).trans (HBB.out i hi).1, (x2.frozen (p := ⟨_, i, none⟩) hlt).trans (HBB.out i hi).2⟩
    have B2 := B1.trans (x2.mono B1.size)
    obtain ⟨c8, f8⟩ := HB2 8 (by omega)
    obtain ⟨c10, f10⟩ := HB2 10 (by omega)
    obtain ⟨c11, f11⟩ := HB2 11 (by omega)
    have HH := Lib.hid HB2
    clear HB2 hconv ck x2 B1 HBB hlt
    go_upto_region 4 with fail
    clear c8 f8 c10 f10 c11 f11
    have HB3 : Bts (((w2.setCell ⟨w.heap.size, 8, none⟩ (.int .u8 0)).setCell ⟨w.heap.size, 10, none⟩ (.int .u8 0)).setCell ⟨w.heap.size, 11, none⟩ (.int .u8 0)) w.heap.size s.size (bt P) := (((HH.out.set 8 0 (by omega)).set 10 0 (by omega)).set 11 0 (by omega)).congr fun j _ => by rw [pb.out j]
    have B3 := ((B2.setCell (p := ⟨w.heap.size, 8, none⟩) (Nat.le_refl _) (.int .u8 0)).setCell (p := ⟨w.heap.size, 10, none⟩) (Nat.le_refl _) (.int .u8 0)).setCell (p := ⟨w.heap.size, 11, none⟩) (Nat.le_refl _) (.int .u8 0)
    obtain ⟨w3, hw3⟩ : ∃ x, x = ((w2.setCell ⟨w.heap.size, 8, none⟩ (.int .u8 0)).setCell ⟨w.heap.size, 10, none⟩ (.int .u8 0)).setCell ⟨w.heap.size, 11, none⟩ (.int .u8 0) := ⟨_, rfl⟩
    rw [← hw3] at HB3 B3 ⊢
    clear hw3 HH B2
    obtain ⟨ck0, fk0⟩ := HB3 k (by omega)
    have hv := conv_bts (c := c) HB3 zp
    rw [d0] at ck0
    have m0 : (bt s k == 255) = false := by simpa using n0
    clear HB3 zp pb d0 d1 n0
    generalize bt s k = x at *
    clear hs
    go_wp2
    go_ret
    exact ⟨rfl, B3⟩
  · go_enter Tryz.func16, Tryz.ntmps16
    go_wp2_with fail
    refine (ck _).mono ?_; rintro e w2 ⟨rfl, x2⟩
    have HB2 : Bts w2 w.heap.size s.size (bt s) := fun i hi => ⟨(x2.cell (p := ⟨_, i, none⟩) hlt).trans (HBB.out i hi).1, (x2.frozen (p := ⟨_, i, none⟩) hlt).trans (HBB.out i hi).2⟩
    have B2 := B1.trans (x2.mono B1.size)
    obtain ⟨c8, f8⟩ := HB2 8 (by omega)
    obtain ⟨c10, f10⟩ := HB2 10 (by omega)
    obtain ⟨c11, f11⟩ := HB2 11 (by omega)
    have HH := Lib.hid HB2
    clear HB2 hconv ck x2 B1 HBB hlt
    go_upto_region 4 with fail
    clear c8 f8 c10 f10 c11 f11
    have HB3 : Bts (((w2.setCell ⟨w.heap.size, 8, none⟩ (.int .u8 0)).setCell ⟨w.heap.size, 10, none⟩ (.int .u8 0)).setCell ⟨w.heap.size, 11, none⟩ (.int .u8 0)) w.heap.size s.size (bt P) := (((HH.out.set 8 0 (by omega)).set 10 0 (by omega)).set 11 0 (by omega)).congr fun j _ => by rw [pb.out j]
    have B3 := ((B2.setCell (p := ⟨w.heap.size, 8, none⟩) (Nat.le_refl _) (.int .u8 0)).setCell (p := ⟨w.heap.size, 10, none⟩) (Nat.le_refl _) (.int .u8 0)).setCell (p := ⟨w.heap.size, 11, none⟩) (Nat.le_refl _) (.int .u8 0)
    obtain ⟨w3, hw3⟩ : ∃ x, x = ((w2.setCell ⟨w.heap.size, 8, none⟩ (.int .u8 0)).setCell ⟨w.heap.size, 10, none⟩ (.int .u8 0)).setCell ⟨w.heap.size, 11, none⟩ (.int .u8 0) := ⟨_, rfl⟩
    rw [← hw3] at HB3 B3 ⊢
    clear hw3 HH B2
    obtain ⟨ck0, fk0⟩ := HB3 k (by omega)
    obtain ⟨ck1, fk1⟩ := HB3 (k + 1) (by omega)
    have hv := conv_bts (c := c) HB3 zp
    rw [d0, n0] at ck0
    rw [d1] at ck1
    have m1 : (bt s (k + 1) == 255) = false := by simpa using n1
    clear HB3 zp pb d0 d1 n0 n1
    generalize bt s (k + 1) = x at *
    clear hs
    go_wp2
    go_ret
    exact ⟨rfl, B3⟩
  · have pt := Lib.hid (fun j => plB1_bt (T := Q) (k := k) (by omega) j)
    have zT : (withB Q k (strOfNums (wordL [0]))).size = s.size := by rw [size_withB _ _ _ (by show k + 2 ≤ _; omega)]; exact zp
    generalize withB Q k (strOfNums (wordL [0])) = P at *
    go_enter Tryz.func16, Tryz.ntmps16
    go_wp2_with fail
    refine (ck _).mono ?_; rintro e w2 ⟨rfl, x2⟩
    have HB2 : Bts w2 w.heap.size s.size (bt s) := fun i hi => ⟨(x2.cell (p := ⟨_, i, none⟩) hlt).trans (HBB.out i hi).1, (x2.frozen (p := ⟨_, i, none⟩) hlt).trans (HBB.out i hi).2⟩
    have B2 := B1.trans (x2.mono B1.size)
    obtain ⟨c8, f8⟩ := HB2 8 (by omega)
    obtain ⟨c10, f10⟩ := HB2 10 (by omega)
    obtain ⟨c11, f11⟩ := HB2 11 (by omega)
    have HH := Lib.hid HB2
    clear HB2 hconv ck x2 B1 HBB hlt
    go_upto_region 4 with fail
    clear c8 f8 c10 f10 c11 f11
    have HB3 : Bts (((w2.setCell ⟨w.heap.size, 8, none⟩ (.int .u8 0)).setCell ⟨w.heap.size, 10, none⟩ (.int .u8 0)).setCell ⟨w.heap.size, 11, none⟩ (.int .u8 0)) w.heap.size s.size (bt Q) := (((HH.out.set 8 0 (by omega)).set 10 0 (by omega)).set 11 0 (by omega)).congr fun j _ => by rw [pb.out j]
    have B3 := ((B2.setCell (p := ⟨w.heap.size, 8, none⟩) (Nat.le_refl _) (.int .u8 0)).setCell (p := ⟨w.heap.size, 10, none⟩) (Nat.le_refl _) (.int .u8 0)).setCell (p := ⟨w.heap.size, 11, none⟩) (Nat.le_refl _) (.int .u8 0)
    obtain ⟨w3, hw3⟩ : ∃ x, x = ((w2.setCell ⟨w.heap.size, 8, none⟩ (.int .u8 0)).setCell ⟨w.heap.size, 10, none⟩ (.int .u8 0)).setCell ⟨w.heap.size, 11, none⟩ (.int .u8 0) := ⟨_, rfl⟩
    rw [← hw3] at HB3 B3 ⊢
    clear hw3 HH B2
    obtain ⟨ck0, fk0⟩ := HB3 k (by omega)
    obtain ⟨ck1, fk1⟩ := HB3 (k + 1) (by omega)
    have HB4 : Bts ((w3.setCell ⟨w.heap.size, k, none⟩ (.int .u8 0)).setCell ⟨w.heap.size, k + 1, none⟩ (.int .u8 0)) w.heap.size s.size (bt P) := ((HB3.set k 0 (by omega)).set (k + 1) 0 (by omega)).congr fun j _ => by rw [pt.out]
    have hv := conv_bts (c := c) HB4 zT
    have B4 := (B3.setCell (p := ⟨w.heap.size, k, none⟩) (Nat.le_refl _) (.int .u8 0)).setCell (p := ⟨w.heap.size, k + 1, none⟩) (Nat.le_refl _) (.int .u8 0)
    rw [d0, n0] at ck0
    rw [d1, n1] at ck1
    clear HB3 HB4 zp zT pt pb d0 d1 n0 n1
    clear hs
    go_upto_region 6 with fail
    obtain ⟨w4, hw4⟩ : ∃ x, x = (w3.setCell ⟨w.heap.size, k, none⟩ (.int .u8 0)).setCell ⟨w.heap.size, k + 1, none⟩ (.int .u8 0) := ⟨_, rfl⟩
    rw [← hw4] at hv B4 ⊢
    clear hw4 ck0 fk0 ck1 fk1
    go_wp2
    go_ret
    exact ⟨rfl, B4⟩
end Go.Proofs.YtbglnebmfnoenaaGreatDoor

namespace Go.Proofs.YtbglnebmfnoenaaGreatDoor
set_option linter.unusedVariables false
set_option linter.unusedSimpArgs false
open Go.ChangeShapes Go.WideShapes Go.ChangeAt Go.RowKit Go.PlainAid
attribute [local go_sem ↓] Go.wp_at_zero Go.wp_at_succ
theorem wrap64_in_ (n : Int) (h0 : n ≤ 9223372036854775807) (h1 : -9223372036854775808 ≤ n) : wrap64 n = n := by unfold wrap64; omega
/-- What is seen of the packet, changed, by kinds. -/
theorem seen_kinds {s : ByteArray} {m n : Int} (hs : seenR s = 0) :
    (bt s 9 = 1 ∧ oK (bt s 9) (pP s) = 3 ∧ cM (bt s 9) (pP s) m = oM (bt s 9) (pP s) ∧ cN (bt s 9) (pP s) n = oN (bt s 9) (pP s) ∧ kq (bt s 9) (pP s) = 0) ∨
    (¬ bt s 9 = 1 ∧ ¬ oK (bt s 9) (pP s) = 3 ∧ cM (bt s 9) (pP s) m = m ∧ cN (bt s 9) (pP s) n = n ∧ 0 < kq (bt s 9) (pP s)) ∨
    (bt s 9 = 1 ∧ ¬ oK (bt s 9) (pP s) = 3 ∧ oA (bt s 9) (pP s) = true ∧ cM (bt s 9) (pP s) m = m ∧ cN (bt s 9) (pP s) n = oN (bt s 9) (pP s) ∧ 0 < kq (bt s 9) (pP s)) ∨
    (bt s 9 = 1 ∧ ¬ oK (bt s 9) (pP s) = 3 ∧ oA (bt s 9) (pP s) = false ∧ cM (bt s 9) (pP s) m = oM (bt s 9) (pP s) ∧ cN (bt s 9) (pP s) n = n ∧ 0 < kq (bt s 9) (pP s)) := by
  obtain ⟨hp, ho⟩ := seen_ip hs
  rcases oR_cases ho with ⟨k, t1⟩ | ⟨k, t1⟩ | ⟨k, t1, q⟩
  · rw [k]
    refine .inr (.inl ⟨by omega, ?_, ?_, ?_, by rw [kq_6]; omega⟩)
    · unfold oK; rw [if_neg (by omega : ¬ (6 : Int) = 1)]; split <;> omega
    · unfold cM; rw [if_neg (by omega)]
    · unfold cN; rw [if_neg (by omega)]
  · rw [k]
    refine .inr (.inl ⟨by omega, ?_, ?_, ?_, by rw [kq_17]; omega⟩)
    · unfold oK; rw [if_neg (by omega : ¬ (17 : Int) = 1)]; split <;> omega
    · unfold cM; rw [if_neg (by omega)]
    · unfold cN; rw [if_neg (by omega)]
  · rw [k, kq_1]
    have eK : oK 1 (pP s) = if qIs (bt (pP s) 0) (bt (pP s) 1) = true then 2 else 3 := by unfold oK; rw [if_pos rfl]
    have eA : oA 1 (pP s) = qAsk (bt (pP s) 0) (bt (pP s) 1) := by unfold oA; simp
    have eM : oM 1 (pP s) = if qAsk (bt (pP s) 0) (bt (pP s) 1) = true then idM (mR (pP s)) else 0 := by unfold oM; rw [if_pos rfl]
    have eN : oN 1 (pP s) = if (qIs (bt (pP s) 0) (bt (pP s) 1) && !qAsk (bt (pP s) 0) (bt (pP s) 1)) = true then idM (mR (pP s)) else 0 := by unfold oN; rw [if_pos rfl]
    have fM : cM 1 (pP s) m = if qAsk (bt (pP s) 0) (bt (pP s) 1) = true then m else 0 := by unfold cM; rw [if_pos rfl]
    have fN : cN 1 (pP s) n = if (qIs (bt (pP s) 0) (bt (pP s) 1) && !qAsk (bt (pP s) 0) (bt (pP s) 1)) = true then n else 0 := by unfold cN; rw [if_pos rfl]
    have hsub := @q_sub (bt (pP s) 0) (bt (pP s) 1)
    rw [eK, eA, eM, eN, fM, fN]
    generalize qAsk (bt (pP s) 0) (bt (pP s) 1) = qa at *
    generalize qIs (bt (pP s) 0) (bt (pP s) 1) = qi at *
    cases qi with
    | false =>
      have hqa : qa = false := by cases qa; rfl; exact absurd (hsub rfl) (by decide)
      subst hqa
      left; simp
    | true =>
      cases qa with
      | true => right; right; left; simp
      | false => right; right; right; simp
/-- A byte of the packet, changed: which of its places it stands in. -/
theorem zones {s t : ByteArray} {a m b n : Int} {N : Nat} (h : rwR s = 0) (hc : okC a m b n) (R : RwF s t a m b n N) (i : Nat) (hi : i < N) (q e : Nat) (hq : (¬ bt s 9 = 1 ∧ q = ownN s ∧ e = 4) ∨ (bt s 9 = 1 ∧ q = ownN s + 4 ∧ e = 2)) :
    (i < 8 ∧ bt s i = bt t i) ∨ (8 ≤ i ∧ i < 20 ∧ ¬ i = 9) ∨ (i = 9 ∧ bt s i = bt t i) ∨ (20 ≤ i ∧ i < q ∧ (bt s i = bt t i ∨ (0 < kAt t ∧ i = kAt t) ∨ (0 < kAt t ∧ i = kAt t + 1))) ∨ (q ≤ i ∧ i < q + e ∧ 0 < kAt t) ∨ (20 ≤ i ∧ q + e ≤ i ∧ (bt s i = bt t i ∨ (0 < kAt t ∧ i = kAt t) ∨ (0 < kAt t ∧ i = kAt t + 1))) ∨ (q ≤ i ∧ i < q + e ∧ 20 ≤ i ∧ kAt t = 0 ∧ bt s i = bt t i) := by
  have o0 := R.own0
  have kt := kAt_kq R.seen
  rw [R.own] at kt
  by_cases c8 : i < 8
  · left; exact ⟨c8, (rw_same h hc R i hi (by unfold headZ; simp; omega) (by unfold portZ; rw [R.own]; simp; omega) (by omega)).symm⟩
  by_cases c9 : i = 9
  · right; right; left; exact ⟨c9, (rw_same h hc R i hi (by unfold headZ; simp; omega) (by unfold portZ; rw [R.own]; simp; omega) (by omega)).symm⟩
  by_cases c20 : i < 20
  · right; left; exact ⟨by omega, c20, c9⟩
  have hz : headZ i = false := by unfold headZ; simp; omega
  by_cases p1 : q ≤ i ∧ i < q + e ∧ 0 < kAt t
  · right; right; right; right; left; exact p1
  have pz : portZ t i = false := by
    unfold portZ
    rw [R.b9, R.own]
    rcases hq with ⟨k1, k2, k3⟩ | ⟨k1, k2, k3⟩
    · have kk : 0 < kAt t := by
        have := kAt_kq R.seen
        rw [R.b9] at this
        obtain ⟨hp, ho⟩ := seen_ip (rw_zero h).1
        rcases oR_cases ho with ⟨k, t1⟩ | ⟨k, t1⟩ | ⟨k, t1, q⟩
        · rw [k, kq_6] at this; omega
        · rw [k, kq_17] at this; omega
        · omega
      simp [k1]; omega
    · simp [k1]; omega
  by_cases ck : kAt t ≠ 0 ∧ (i = kAt t ∨ i = kAt t + 1)
  · have hh : (0 < kAt t ∧ i = kAt t) ∨ (0 < kAt t ∧ i = kAt t + 1) := by omega
    by_cases c1 : i < q
    · right; right; right; left; exact ⟨by omega, c1, .inr hh⟩
    · right; right; right; right; right; left; exact ⟨by omega, by omega, .inr hh⟩
  have eq := (rw_same h hc R i hi hz pz ck).symm
  by_cases c1 : i < q
  · right; right; right; left; exact ⟨by omega, c1, .inl eq⟩
  by_cases c2 : q + e ≤ i
  · right; right; right; right; right; left; exact ⟨by omega, c2, .inl eq⟩
  · right; right; right; right; right; right; exact ⟨by omega, by omega, by omega, by omega, eq⟩
end Go.Proofs.YtbglnebmfnoenaaGreatDoor
