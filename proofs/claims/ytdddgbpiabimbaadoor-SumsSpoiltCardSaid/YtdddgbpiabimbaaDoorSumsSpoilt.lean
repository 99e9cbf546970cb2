/- The walk of SumsSpoilt. -/
import Derived.Test.YtdddgbpiabimbaaDoorSumsVoid
import Derived.Test.YtdddgbpiabimbaaDoorOwn16
import Derived.OwnWalk
namespace Go.Proofs.YtdddgbpiabimbaaDoor.SumsSpoilt
open Go.ChangeShapes Go.WideShapes Go.ChangeAt Go.RowKit Go.PlainAid
theorem Tryd.info25 : (Tryd.prog.info? 25).map (fun i => (i.zero, i.size, i.bytes)) = some (some (.int .u16 0), 1, 2) := by kernel_rfl
/-- The two sums are the same just where the words are, but for 0 and 65535. -/
theorem plain (ys : List Int) (h : ∀ n ∈ ys, 0 ≤ n ∧ n ≤ 65535) (k : Nat) (hk : k < ys.length) (o : Int) (o0 : 0 ≤ o) (o1 : o ≤ 65535) :
    decide (sumV [strOfNums (wordL ys)] = sumV [strOfNums (wordL (ys.set k o))]) = (decide (ys.getD k 0 = o) || (decide (ys.getD k 0 % 65535 = o % 65535) && !voidV (strOfNums (wordL (ys.set k 0))))) := by
  rw [voidV_W _ (wf_set h k (by omega) (by omega)), sumV_cl, sumV_cl, totTs1, totTs1, totT_W _ h, totT_W _ (wf_set h k o0 o1), sum_set ys k o hk, sum_set ys k 0 hk]
  have hR := sum_nonneg _ (wf_set h k (v := 0) (by omega) (by omega))
  rw [sum_set ys k 0 hk] at hR
  have hx : 0 ≤ ys.getD k 0 ∧ ys.getD k 0 ≤ 65535 := by rw [getD_lt _ _ _ hk]; exact h _ (List.getElem_mem hk)
  generalize ys.getD k 0 = x at *
  generalize hS : ys.sum = S at *
  rw [Bool.eq_iff_iff]
  simp only [decide_eq_true_iff, Bool.or_eq_true, Bool.and_eq_true, Bool.not_eq_true', decide_eq_false_iff_not]
  unfold cl
  by_cases e : x = o
  · subst e
    simp
  · split <;> split <;> omega
set_option maxRecDepth 100000 in
set_option maxHeartbeats 1000000 in
theorem walk (a : Option Addr) (len cap : Nat) (zs : List Int) (n : Int) (o : Int) (w : World) (hr : IsRow .u16 w a len cap zs) (hn : (Lit.int .u8 n).wf = true) (ho : (Lit.int .u16 o).wf = true) :
    Calls Tryd.prog 4 #[.slice a len cap, .int .u8 n, .int .u16 o] w fun e w' => e = .returned (.bool true) ∧ Below w.heap.size w w' := by
  obtain ⟨n0, n1⟩ := bounds_u8 hn
  obtain ⟨o0, o1⟩ := bounds_u16 ho
  have hlen := hr.len_le
  unfold maxLen at hlen
  have hrow := hr.row
  have WF := Lib.hid (fun x hx => bounds_u16 (hr.wf x hx))
  clear hr hn ho
  by_cases h1 : 200 < len
  · have e1 : decide ((200 : Int) < len) = true := by simp; omega
    go_enter Tryd.func4, Tryd.ntmps4
    go_wp2_with fail
    refine (summed_ _).mono ?_; rintro e w1 ⟨rfl, b1⟩
    go_wp2
    go_ret
    exact ⟨rfl, b1⟩
  have e1 : decide ((200 : Int) < len) = false := by simp; omega
  by_cases h2 : len = 0
  · subst h2
    go_enter Tryd.func4, Tryd.ntmps4
    go_wp2_with fail
    refine (summed_ _).mono ?_; rintro e w1 ⟨rfl, b1⟩
    go_wp2
    go_ret
    exact ⟨rfl, b1⟩
  have e2 : ((len : Int) == 0) = false := by simp; omega
  obtain ⟨ys, hys⟩ : ∃ ys, ys = zs.take len := ⟨_, rfl⟩
  rw [← hys] at hrow WF
  clear hys
  have ROW := Lib.hid hrow
  obtain ⟨hyl, hrow⟩ := hrow
  obtain ⟨b, off, rfl, hb, hc⟩ := hrow.resolve_left h2
  have hk0 : 0 ≤ n % (len : Int) := Int.emod_nonneg _ (by omega)
  have hk1 : n % (len : Int) < (len : Int) := Int.emod_lt_of_pos _ (by omega)
  obtain ⟨k, hk⟩ := Int.eq_ofNat_of_zero_le hk0
  have hkl : k < len := by omega
  have PL := plain ys WF.out k (by omega) o o0 o1
  obtain ⟨x0, x1⟩ : 0 ≤ ys.getD k 0 ∧ ys.getD k 0 ≤ 65535 := by rw [getD_lt _ _ _ (by omega)]; exact WF.out _ (List.getElem_mem (by omega))
  obtain ⟨va0, va1⟩ := sumV_bd [strOfNums (wordL ys)]
  obtain ⟨vb0, vb1⟩ := sumV_bd [strOfNums (wordL (ys.set k o))]
  obtain ⟨x, hx⟩ : ∃ x, x = ys.getD k 0 := ⟨_, rfl⟩
  obtain ⟨va, hva⟩ : ∃ x, x = sumV [strOfNums (wordL ys)] := ⟨_, rfl⟩
  obtain ⟨vb, hvb⟩ : ∃ x, x = sumV [strOfNums (wordL (ys.set k o))] := ⟨_, rfl⟩
  obtain ⟨vv, hvv⟩ : ∃ x, x = voidV (strOfNums (wordL (ys.set k 0))) := ⟨_, rfl⟩
  rw [← hva] at PL va0 va1
  rw [← hvb] at PL vb0 vb1
  rw [← hvv] at PL
  rw [← hx] at PL x0 x1
  have HX := Lib.hid hx
  have VA := Lib.hid hva
  have VB := Lib.hid hvb
  have VV := Lib.hid hvv
  clear hx hva hvb hvv
  have HC := Lib.hid hc
  have HYL := Lib.hid hyl
  have KL := Lib.hid hkl
  have hl200 : len ≤ 200 := by omega
  obtain ⟨i0, hi, hz0, hz1, hz2⟩ := info_parts Tryd.info25
  have hkI : (k : Int) < (len : Int) := by omega
  clear hk0 hk1 h1 h2 hyl hrow hc hkl
  have fin : ∀ al : Bool, (x == o || (x % 65535 == o % 65535 && !vv)) = al → (va == vb) = al → ((x == o) = true ∨ (x == o) = false) → ((x % 65535 == o % 65535) = true ∨ (x % 65535 == o % 65535) = false) → (vv = true ∨ vv = false) → (al = true ∨ al = false) →
      Calls Tryd.prog 4 #[.slice (some ⟨b, off, none⟩) len cap, .int .u8 n, .int .u16 o] w fun e w' => e = .returned (.bool true) ∧ Below w.heap.size w w' := by
    intro al q1 q2 c1 c2 c3 c4
    rcases c1 with r1 | r1 <;> rcases c2 with r2 | r2 <;> rcases c3 with r3 | r3 <;> rcases c4 with r4 | r4
    all_goals rw [r4] at q1 q2
    all_goals (try rw [r1, r2, r3] at q1)
    all_goals (try cases q1)
    all_goals clear PL r4
    all_goals
      go_enter Tryd.func4, Tryd.ntmps4
      go_wp2_with (at_builtin; refine wpList_append_own _ rfl _ _ 22 rfl w.heap.size 25 i0 (.int .u16 0) 1 2 Tryd.underlying22 hi hz0 hz1 hz2 rfl (by decide) _ 0 [] rfl (World.ownsRow_nil _ _ _ _) ⟨b, off, none⟩ len cap (ys.map (Value.int .u16)) rfl ?c1 ?c2 ?c3 ?c4 ?c5 (Nat.le_refl _) ?_)
      case c1 => simp [HYL.out]
      case c2 =>
        intro j u hj
        have hjl : j < ys.length := by
          have := (List.getElem?_eq_some_iff.1 hj).1
          simpa using this
        rw [addr_add, HC.out j (by rw [← HYL.out]; exact hjl)]
        simp [List.getElem?_eq_getElem hjl] at hj
        rw [← hj]
        simp [List.getD, hjl]
      case c3 => intro u hu; simp at hu; obtain ⟨x, _, rfl⟩ := hu; rfl
      case c4 => unfold maxLen; omega
      case c5 => omega
      intro v w1 hown hgrow _
      obtain ⟨g, C, rfl, hg0, hO⟩ := OwnR.of hown HYL.out (by have := KL.out; omega)
      have hlt := hO.2.1
      have B1 : Below w.heap.size w w1 := (Below.refl _ _).grown (row := none) hgrow (Nat.le_refl _) (fun k h => by cases h)
      clear hown hgrow
      obtain ⟨c1, f1⟩ := hO.2.2 k KL.out
      have OW := Lib.hid hO
      clear hO
      go_wp2_with fail
      have O2 := Lib.hid (OW.out.set k KL.out 0)
      have hB : w.heap.size ≤ g := hg0
      have B2 : Below w.heap.size w (w1.setCell ⟨g, k, none⟩ (.int .u16 0)) := B1.setCell hB _
      obtain ⟨W2, hW2⟩ : ∃ W2, W2 = w1.setCell ⟨g, k, none⟩ (.int .u16 0) := ⟨_, rfl⟩
      rw [← hW2] at O2 B2
      rw [← hW2]
      clear hW2 c1 f1 OW B1 hlt
      refine (word_any _ _ _ _ _ O2.out.row (by omega) (wf_set WF.out k (by omega) (by omega))).mono ?_; rintro e w3 ⟨rfl, b3⟩
      have B3 := B2.trans (b3.mono B2.size)
      have O3 := Lib.hid (O2.out.kept b3)
      clear B2 b3 O2
      go_wp2_with fail
      refine (void_ _ _ (by rw [size_W, List.length_set, HYL.out]; unfold maxLen; omega)).mono ?_; rintro e w4 ⟨rfl, b4⟩
      rw [← VV.out]
      have B4 := B3.trans (b4.mono B3.size)
      have O4 := Lib.hid (O3.out.kept b4)
      clear B3 b4 O3
      obtain ⟨c4, f4⟩ := O4.out.2.2 k KL.out
      have d4 : w4.cell? ⟨b, off + k, none⟩ = some (.int .u16 (ys.getD k 0)) := (B4.cell (by exact hb)).trans (HC.out k KL.out)
      rw [← HX.out] at d4
      go_wp2_with fail
      have hB' : w.heap.size ≤ g := hB
      have O5 := Lib.hid (O4.out.set k KL.out o)
      rw [List.set_set] at O5
      have B5 : Below w.heap.size w (w4.setCell ⟨g, k, none⟩ (.int .u16 o)) := B4.setCell hB _
      obtain ⟨W5, hW5⟩ : ∃ W5, W5 = w4.setCell ⟨g, k, none⟩ (.int .u16 o) := ⟨_, rfl⟩
      rw [← hW5] at O5 B5
      rw [← hW5]
      clear hW5 c4 f4 d4 O4 B4
      refine (word_any _ _ _ _ _ (ROW.out.kept B5) (by omega) WF.out).mono ?_; rintro e w6 ⟨rfl, b6⟩
      have B6 := B5.trans (b6.mono B5.size)
      have O6 := Lib.hid (O5.out.kept b6)
      clear B5 b6 O5
      go_wp2_with fail
      refine (sum_ _ 1 1 [strOfNums (wordL ys)] _ (rowS1 (by simp) (by simp) (by rw [size_W, HYL.out]; unfold maxLen; omega))).mono ?_; rintro e w7 ⟨rfl, b7⟩
      rw [← VA.out]
      have B7 : Below w.heap.size w w7 := (B6.alloc B6.size _).trans (b7.mono (by simp; have := B6.size; omega))
      have O7 := Lib.hid ((O6.out.kept ((Below.refl _ _).alloc (Nat.le_refl _) _)).kept b7)
      clear B6 b7 O6
      go_wp2_with fail
      refine (word_any _ _ _ _ _ O7.out.row (by omega) (wf_set WF.out k o0 o1)).mono ?_; rintro e w8 ⟨rfl, b8⟩
      have B8 := B7.trans (b8.mono B7.size)
      clear B7 b8 O7
      go_wp2_with fail
      refine (sum_ _ 1 1 [strOfNums (wordL (ys.set k o))] _ (rowS1 (by simp) (by simp) (by rw [size_W, List.length_set, HYL.out]; unfold maxLen; omega))).mono ?_; rintro e w9 ⟨rfl, b9⟩
      rw [← VB.out]
      have B9 : Below w.heap.size w w9 := (B8.alloc B8.size _).trans (b9.mono (by simp; have := B8.size; omega))
      clear B8 b9
      go_wp2_with fail
      refine (summed_ _).mono ?_; rintro e w10 ⟨rfl, b10⟩
      have B10 := B9.trans (b10.mono B9.size)
      clear B9 b10
      go_wp2
      go_ret
      exact ⟨rfl, B10⟩
  refine fin _ rfl ?_ (by cases x == o <;> simp) (by cases x % 65535 == o % 65535 <;> simp) (by cases vv <;> simp) (by cases (x == o || (x % 65535 == o % 65535 && !vv)) <;> simp)
  have e1 : (va == vb) = decide (va = vb) := by by_cases h : va = vb <;> simp [h]
  have e2 : (x == o) = decide (x = o) := by by_cases h : x = o <;> simp [h]
  have e3 : (x % 65535 == o % 65535) = decide (x % 65535 = o % 65535) := by by_cases h : x % 65535 = o % 65535 <;> simp [h]
  rw [e1, e2, e3]
  exact PL
end Go.Proofs.YtdddgbpiabimbaaDoor.SumsSpoilt
