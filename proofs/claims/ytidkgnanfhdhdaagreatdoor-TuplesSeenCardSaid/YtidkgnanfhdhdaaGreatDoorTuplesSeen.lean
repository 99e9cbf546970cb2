/- The walk of TuplesSeen. -/
import Derived.Test.YtidkgnanfhdhdaaGreatDoorTupIU
import Derived.Test.YtidkgnanfhdhdaaGreatDoorTupIT
import Derived.Test.YtidkgnanfhdhdaaGreatDoorTupIM
import Derived.Test.YtidkgnanfhdhdaaGreatDoorGm
import Derived.Test.YtidkgnanfhdhdaaGreatDoorGe
import Derived.Test.YtidkgnanfhdhdaaGreatDoorGg
import Derived.Test.YtidkgnanfhdhdaaGreatDoorGi
import Derived.Test.YtidkgnanfhdhdaaGreatDoorGl
import Derived.Lib.Hide
namespace Go.Proofs.YtidkgnanfhdhdaaGreatDoor.TuplesSeen
set_option linter.unusedVariables false
set_option linter.unusedSimpArgs false
open Go.ChangeShapes Go.WideShapes Go.ChangeAt Go.RowKit Go.PlainAid
theorem ix_ (r : Int) (r0 : 0 ≤ r) (r1 : r ≤ 3) (u : World) : (Instr.index 52 (.agg #[.int .u8 0, .int .u8 8, .int .u8 13, .int .u8 14]) (.int .u8 r)).run Tryz.prog u = .ok (.int .u8 (tyV r)) u := by
  have h : r = 0 ∨ r = 1 ∨ r = 2 ∨ r = 3 := by omega
  rcases h with rfl | rfl | rfl | rfl <;> simp [Instr.index, run_underlying Tryz.underlying52, asIntOf, go_sem, tyV]
theorem putB_size (a id : Int) (fl : Bool) (tt pr sr ds : Int) (o p : ByteArray) : (putB a id fl tt pr sr ds o p).size ≤ 20 + o.size + p.size := by
  unfold putB
  split
  · rw [ByteArray.size_append]; unfold hdrS; rw [hdrB_size]; omega
  · show 0 ≤ _; omega

set_option maxHeartbeats 8000000 in
set_option maxRecDepth 100000 in
theorem seen_low (K : TupOk) (p a m b n h0 h1 h3 h4 h5 h6 g0 g1 g2 g3 g4 g5 g6 g7 g8 ty : Int) (h2 : Bool) (h7 g9 dd q : ByteArray) (mv : Bool) (w : World) (ht : Tab w)
    (hw : mv = false ∨ 600 < h7.size ∨ 600 < g9.size ∨ 600 < dd.size ∨ 100 < q.size) (cM : ∀ u : World, Tab u → Calls Tryz.prog 13 #[.agg #[.int .u8 p, .int .u32 a, .int .u16 m, .int .u32 b, .int .u16 n]] u fun e w' => e = .returned (.bool mv) ∧ Below u.heap.size u w') :
    Calls Tryz.prog 5 #[.agg #[.int .u8 p, .int .u32 a, .int .u16 m, .int .u32 b, .int .u16 n], .agg #[.int .u8 h0, .int .u16 h1, .bool h2, .int .u8 h3, .int .u8 h4, .int .u32 h5, .int .u32 h6, .string h7, .int .u16 g0, .int .u16 g1, .int .u32 g2, .int .u32 g3, .int .u8 g4, .int .u8 g5, .int .u16 g6, .int .u16 g7, .int .u16 g8, .string g9, .int .u8 ty, .string dd], .string q] w fun e w' => e = .returned (.bool true) ∧ Below w.heap.size w w' := by
  have key : ∃ x y z t : Bool, decide ((600 : Int) < (h7.size : Int)) = x ∧ decide ((600 : Int) < (g9.size : Int)) = y ∧ decide ((600 : Int) < (dd.size : Int)) = z ∧ decide ((100 : Int) < (q.size : Int)) = t ∧ decide (600 < h7.size) = x ∧ decide (600 < g9.size) = y ∧ decide (600 < dd.size) = z ∧ decide (100 < q.size) = t ∧ (mv = false ∨ (mv = true ∧ x = true) ∨ (mv = true ∧ x = false ∧ y = true) ∨ (mv = true ∧ x = false ∧ y = false ∧ z = true) ∨ (mv = true ∧ x = false ∧ y = false ∧ z = false ∧ t = true)) := by
    refine ⟨decide (600 < h7.size), decide (600 < g9.size), decide (600 < dd.size), decide (100 < q.size), by simp; try omega, by simp; try omega, by simp; try omega, by simp; try omega, rfl, rfl, rfl, rfl, ?_⟩
    simp only [decide_eq_true_eq, decide_eq_false_iff_not]
    cases mv
    · exact .inl rfl
    · right
      simp only [true_and, Bool.true_eq_false, false_or] at hw ⊢
      omega
  obtain ⟨x, y, z, t, e1, e2, e3, e4, e5, e6, e7, e8, hk⟩ := key
  clear hw
  rcases hk with rfl | ⟨rfl, rfl⟩ | ⟨rfl, rfl, rfl⟩ | ⟨rfl, rfl, rfl, rfl⟩ | ⟨rfl, rfl, rfl, rfl, rfl⟩
  all_goals
    go_enter Tryz.func5, Tryz.ntmps5
    have B1 := Below.refl w.heap.size w
    go_wp2_with fail
    have T_2 := Box5.make w (.int .u8 p) (.int .u32 a) (.int .u16 m) (.int .u32 b) (.int .u16 n) 29
    have B3 := B1.alloc B1.size (.cells #[.int .u8 p, .int .u32 a, .int .u16 m, .int .u32 b, .int .u16 n] 29)
    clear B1
    have T_4 := T_2.past (o := (.cells #[.int .u8 h0, .int .u16 h1, .bool h2, .int .u8 h3, .int .u8 h4, .int .u32 h5, .int .u32 h6, .string h7, .int .u16 g0, .int .u16 g1, .int .u32 g2, .int .u32 g3, .int .u8 g4, .int .u8 g5, .int .u16 g6, .int .u16 g7, .int .u16 g8, .string g9, .int .u8 ty, .string dd] 51))
    have hs_ : (w.alloc (.cells #[.int .u8 p, .int .u32 a, .int .u16 m, .int .u32 b, .int .u16 n] 29)).heap.size = w.heap.size + 1 := by simp
    have D_5 := Box20.make (w.alloc (.cells #[.int .u8 p, .int .u32 a, .int .u16 m, .int .u32 b, .int .u16 n] 29)) (.int .u8 h0) (.int .u16 h1) (.bool h2) (.int .u8 h3) (.int .u8 h4) (.int .u32 h5) (.int .u32 h6) (.string h7) (.int .u16 g0) (.int .u16 g1) (.int .u32 g2) (.int .u32 g3) (.int .u8 g4) (.int .u8 g5) (.int .u16 g6) (.int .u16 g7) (.int .u16 g8) (.string g9) (.int .u8 ty) (.string dd) 51
    rw [hs_] at D_5
    clear hs_
    have B6 := B3.alloc B3.size (.cells #[.int .u8 h0, .int .u16 h1, .bool h2, .int .u8 h3, .int .u8 h4, .int .u32 h5, .int .u32 h6, .string h7, .int .u16 g0, .int .u16 g1, .int .u32 g2, .int .u32 g3, .int .u8 g4, .int .u8 g5, .int .u16 g6, .int .u16 g7, .int .u16 g8, .string g9, .int .u8 ty, .string dd] 51)
    clear T_2 B3
    refine (cM _ (ht.on B6)).mono ?_; rintro e w1 ⟨rfl, x1⟩
    have T_7 := T_4.on x1
    have D_8 := D_5.on x1
    have B9 := B6.trans (x1.mono B6.size)
    clear T_4 D_5 B6 x1
    obtain ⟨_, d1_0, d1_1, d1_2, d1_3, d1_4, d1_5, d1_6, d1_7, d1_8, d1_9, d1_10, d1_11, d1_12, d1_13, d1_14, d1_15, d1_16, d1_17, d1_18, d1_19⟩ := id D_8
    go_wp2_with fail
    refine (watched_ K _ (ht.on B9)).mono ?_; rintro e w2 ⟨rfl, x2⟩
    have T_10 := T_7.on x2
    have D_11 := D_8.on x2
    have B12 := B9.trans (x2.mono B9.size)
    clear d1_0 d1_1 d1_2 d1_3 d1_4 d1_5 d1_6 d1_7 d1_8 d1_9 d1_10 d1_11 d1_12 d1_13 d1_14 d1_15 d1_16 d1_17 d1_18 d1_19 T_7 D_8 B9 x2
    go_wp2
    go_ret
    exact ⟨rfl, B12⟩
set_option maxHeartbeats 8000000 in
set_option maxRecDepth 100000 in
theorem walk_ (K : TupOk) (p a m b n h0 h1 : Int) (h2 : Bool) (h3 h4 h5 h6 : Int) (h7 : ByteArray) (g0 g1 g2 g3 g4 g5 g6 g7 g8 : Int) (g9 : ByteArray) (ty : Int) (dd q : ByteArray) (w : World) (ht : Tab w) (wp : (Lit.int .u8 p).wf = true) (wa : (Lit.int .u32 a).wf = true) (wm : (Lit.int .u16 m).wf = true) (wb : (Lit.int .u32 b).wf = true) (wn : (Lit.int .u16 n).wf = true) (wh0 : (Lit.int .u8 h0).wf = true) (wh1 : (Lit.int .u16 h1).wf = true) (wh3 : (Lit.int .u8 h3).wf = true) (wh4 : (Lit.int .u8 h4).wf = true) (wh5 : (Lit.int .u32 h5).wf = true) (wh6 : (Lit.int .u32 h6).wf = true) (wh7 : h7.size ≤ maxLen) (wg0 : (Lit.int .u16 g0).wf = true) (wg1 : (Lit.int .u16 g1).wf = true) (wg2 : (Lit.int .u32 g2).wf = true) (wg3 : (Lit.int .u32 g3).wf = true) (wg4 : (Lit.int .u8 g4).wf = true) (wg5 : (Lit.int .u8 g5).wf = true) (wg6 : (Lit.int .u16 g6).wf = true) (wg7 : (Lit.int .u16 g7).wf = true) (wg8 : (Lit.int .u16 g8).wf = true) (wg9 : g9.size ≤ maxLen) (wty : (Lit.int .u8 ty).wf = true) (wdd : dd.size ≤ maxLen) (wq : q.size ≤ maxLen) :
    Calls Tryz.prog 5 #[.agg #[.int .u8 p, .int .u32 a, .int .u16 m, .int .u32 b, .int .u16 n], .agg #[.int .u8 h0, .int .u16 h1, .bool h2, .int .u8 h3, .int .u8 h4, .int .u32 h5, .int .u32 h6, .string h7, .int .u16 g0, .int .u16 g1, .int .u32 g2, .int .u32 g3, .int .u8 g4, .int .u8 g5, .int .u16 g6, .int .u16 g7, .int .u16 g8, .string g9, .int .u8 ty, .string dd], .string q] w fun e w' => e = .returned (.bool true) ∧ Below w.heap.size w w' := by
  obtain ⟨p0, p1⟩ := bounds_u8 wp
  obtain ⟨a0, a1⟩ := bounds_u32 wa
  obtain ⟨m0, m1⟩ := bounds_u16 wm
  obtain ⟨b0, b1⟩ := bounds_u32 wb
  obtain ⟨n0, n1⟩ := bounds_u16 wn
  obtain ⟨h00, h01⟩ := bounds_u8 wh0
  obtain ⟨h10, h11⟩ := bounds_u16 wh1
  obtain ⟨h30, h31⟩ := bounds_u8 wh3
  obtain ⟨h40, h41⟩ := bounds_u8 wh4
  obtain ⟨h50, h51⟩ := bounds_u32 wh5
  obtain ⟨h60, h61⟩ := bounds_u32 wh6
  obtain ⟨g00, g01⟩ := bounds_u16 wg0
  obtain ⟨g10, g11⟩ := bounds_u16 wg1
  obtain ⟨g20, g21⟩ := bounds_u32 wg2
  obtain ⟨g30, g31⟩ := bounds_u32 wg3
  obtain ⟨g40, g41⟩ := bounds_u8 wg4
  obtain ⟨g50, g51⟩ := bounds_u8 wg5
  obtain ⟨g60, g61⟩ := bounds_u16 wg6
  obtain ⟨g70, g71⟩ := bounds_u16 wg7
  obtain ⟨g80, g81⟩ := bounds_u16 wg8
  obtain ⟨ty0, ty1⟩ := bounds_u8 wty
  clear wp wa wm wb wn wh0 wh1 wh3 wh4 wh5 wh6 wg0 wg1 wg2 wg3 wg4 wg5 wg6 wg7 wg8 wty wh7 wg9 wdd wq
  have cM := fun u hu => K.mays p a m b n u p0 p1 a0 a1 m0 m1 b0 b1 n0 n1 hu
  by_cases hlow : tmay p m n = false ∨ 600 < h7.size ∨ 600 < g9.size ∨ 600 < dd.size ∨ 100 < q.size
  · exact seen_low K p a m b n h0 h1 h3 h4 h5 h6 g0 g1 g2 g3 g4 g5 g6 g7 g8 ty h2 h7 g9 dd q (tmay p m n) w ht hlow cM
  have hmay : tmay p m n = true := by
    cases h : tmay p m n with
    | true => rfl
    | false => exact absurd (.inl h) hlow
  have k7 : h7.size ≤ 600 := by omega
  have k9 : g9.size ≤ 600 := by omega
  have kd : dd.size ≤ 600 := by omega
  have kq : q.size ≤ 100 := by omega
  clear hlow
  rw [hmay] at cM
  obtain ⟨r, hr⟩ : ∃ r, ty % 4 = r := ⟨_, rfl⟩
  have ix := ix_ r (by omega) (by omega)
  have hv := tyV_in r
  obtain ⟨v, hvv⟩ : ∃ v, tyV r = v := ⟨_, rfl⟩
  rw [hvv] at ix hv
  clear hvv
  -- what Of tells of it, if it could be put
  have OF : ∀ (p' a' b' m' n' k f : Int) (A : Bool) (L : ByteArray), 0 ≤ p' → p' ≤ 255 → 0 ≤ a' → a' ≤ 4294967295 → 0 ≤ b' → b' ≤ 4294967295 → L.size ≤ 2000 → putE h7.size L.size = 0 → (oR p' L = 0 ∧ oM p' L = m' ∧ oN p' L = n' ∧ oK p' L = k ∧ oF p' L = f ∧ oA p' L = A) →
      ∀ u : World, Tab u → Calls Tryz.prog 7 #[.string (putB h0 h1 h2 h3 p' a' b' h7 L ++ q)] u fun e w' => e = .returned (.tuple #[.agg #[.int .u8 p', .int .u32 a', .int .u16 m', .int .u32 b', .int .u16 n', .int .i64 k, .int .u8 f, .bool A, .int .u8 h3], .int .i64 0]) ∧ Below u.heap.size u w' := by
    intro p' a' b' m' n' k f A L c0 c1 c2 c3 c4 c5 hL hE hO u hu
    obtain ⟨o1, o2, o3, o4, o5, o6⟩ := hO
    have hz := putB_size h0 h1 h2 h3 p' a' b' h7 L
    have := K.ofs (putB h0 h1 h2 h3 p' a' b' h7 L ++ q) u (by rw [ByteArray.size_append]; omega) hu
    obtain ⟨s1, s2, s3, s4, s5, s6, s7, s8, s9, s10⟩ := seen_put h0 h1 h2 h3 p' a' b' h7 L q h00 h01 h10 h11 h30 h31 c0 c1 c2 c3 c4 c5 hE o1
    rw [s1, s2, s3, s4, s5, s6, s7, s8, s9, s10, o2, o3, o4, o5, o6] at this
    exact this
  have PU : ∀ (p' a' b' : Int) (L : ByteArray), 0 ≤ p' → p' ≤ 255 → 0 ≤ a' → a' ≤ 4294967295 → 0 ≤ b' → b' ≤ 4294967295 → L.size ≤ 2000 → ∀ u : World, _ := fun p' a' b' L c0 c1 c2 c3 c4 c5 hL u => put_ h0 h1 h2 h3 p' a' b' h7 L u h00 h01 h10 h11 h30 h31 c0 c1 c2 c3 c4 c5 (by omega) (by omega)
  have SZ : ∀ (p' a' b' : Int) (L : ByteArray), L.size ≤ 2000 → (putB h0 h1 h2 h3 p' a' b' h7 L).size ≤ 1000000 := fun p' a' b' L hL => by
    have := putB_size h0 h1 h2 h3 p' a' b' h7 L; omega
  have hp3 : p = 6 ∨ p = 17 ∨ p = 1 := by
    unfold tmay at hmay
    simp only [Bool.or_eq_true, Bool.and_eq_true, decide_eq_true_eq] at hmay
    omega
  rcases hp3 with rfl | rfl | rfl
  · -- TCP
    have cL := fun u => tcpPut_ m n g2 g3 g4 g5 g6 g7 g8 g9 dd u m0 m1 n0 n1 g20 g21 g30 g31 g40 g41 g50 g51 g60 g61 g70 g71 g80 g81 (by omega) (by omega)
    have zL := tPutB_size m n g2 g3 g4 g5 g6 g7 g8 g9 dd
    have hO : tE g9.size g4 = 0 → oR 6 (tPutB m n g2 g3 g4 g5 g6 g7 g8 g9 dd) = 0 ∧ oM 6 (tPutB m n g2 g3 g4 g5 g6 g7 g8 g9 dd) = m ∧ oN 6 (tPutB m n g2 g3 g4 g5 g6 g7 g8 g9 dd) = n ∧ oK 6 (tPutB m n g2 g3 g4 g5 g6 g7 g8 g9 dd) = (if bits .and .u8 g5 23 = 2 then 1 else 2) ∧ oF 6 (tPutB m n g2 g3 g4 g5 g6 g7 g8 g9 dd) = g5 ∧ oA 6 (tPutB m n g2 g3 g4 g5 g6 g7 g8 g9 dd) = false := fun h => by
      have e : tPutB m n g2 g3 g4 g5 g6 g7 g8 g9 dd = tcpB m n g2 g3 g4 g5 g6 g7 g8 g9 dd := by unfold tPutB; rw [if_pos h]
      rw [e]
      exact o_tcp m n g2 g3 g4 g5 g6 g7 g8 g9 dd m0 m1 n0 n1 g20 g21 g30 g31 g40 g50 g51 g60 g61 g70 g71 g80 g81 h
    generalize tPutB m n g2 g3 g4 g5 g6 g7 g8 g9 dd = L at *
    have cP := lput_tcp a m b n h0 h1 h3 h4 h5 h6 g0 g1 g2 g3 g4 g5 g6 g7 g8 v h2 h7 g9 dd L _ _ cL _ (PU 6 a b L p0 p1 a0 a1 b0 b1 (by omega))
    have hf := flags_ g5 g50 g51
    have hk : ∃ c1 c2 : Bool, decide (0 < bits .and .u8 g5 2) = c1 ∧ (bits .and .u8 g5 21 == 0) = c2 ∧ ((c1 = false ∧ (if bits .and .u8 g5 23 = 2 then (1 : Int) else 2) = 2) ∨ (c1 = true ∧ c2 = false ∧ (if bits .and .u8 g5 23 = 2 then (1 : Int) else 2) = 2) ∨ (c1 = true ∧ c2 = true ∧ (if bits .and .u8 g5 23 = 2 then (1 : Int) else 2) = 1)) := by
      refine ⟨_, _, rfl, rfl, ?_⟩
      generalize decide (0 < bits .and .u8 g5 2) = c1 at *
      generalize (bits .and .u8 g5 21 == 0) = c2 at *
      cases c1
      · left
        have : ¬ bits .and .u8 g5 23 = 2 := by intro h; rw [decide_eq_true h] at hf; cases hf
        exact ⟨rfl, by rw [if_neg this]⟩
      · cases c2
        · right; left
          have : ¬ bits .and .u8 g5 23 = 2 := by intro h; rw [decide_eq_true h] at hf; cases hf
          exact ⟨rfl, rfl, by rw [if_neg this]⟩
        · right; right
          have : bits .and .u8 g5 23 = 2 := of_decide_eq_true hf.symm
          exact ⟨rfl, rfl, by rw [if_pos this]⟩
    obtain ⟨c1, c2, f1, f2, hk⟩ := hk
    have cO : ((tE g9.size g4 == 0) && (putE h7.size L.size == 0)) = true → _ := fun h => OF 6 a b m n (if bits .and .u8 g5 23 = 2 then 1 else 2) g5 false L p0 p1 a0 a1 b0 b1 (by omega) (by simp at h; exact h.2) (hO (by simp at h; exact h.1))
    by_cases hx : v = 0
    · exact seen_tcp_true K a m b n h0 h1 h3 h4 h5 h6 g0 g1 g2 g3 g4 g5 g6 g7 g8 ty v r h2 h7 g9 dd q _ _ _ c1 c2 w ht k7 k9 kd kq (SZ 6 a b L (by omega)) hr ty0 ty1 ix cM cP cO cM (by rw [hx]; rfl) f1 f2 hk
    · exact seen_tcp_false K a m b n h0 h1 h3 h4 h5 h6 g0 g1 g2 g3 g4 g5 g6 g7 g8 ty v r h2 h7 g9 dd q _ _ _ c1 c2 w ht k7 k9 kd kq (SZ 6 a b L (by omega)) hr ty0 ty1 ix cM cP cO cM (by simpa using hx) f1 f2 hk
  · -- UDP
    have cL := fun u => udpPut_ m n 0 g7 dd u m0 m1 n0 n1 g70 g71 (by omega)
    have zL := (udp_parts m n g7 dd m0 m1 n0 n1 g70 g71 (by omega)).1
    have hO := o_udp m n g7 dd m0 m1 n0 n1 g70 g71 (by omega)
    generalize udpB m n g7 dd = L at *
    have cP := lput_udp a m b n h0 h1 h3 h4 h5 h6 g0 g1 g2 g3 g4 g5 g6 g7 g8 v h2 h7 g9 dd L _ cL _ (PU 17 a b L p0 p1 a0 a1 b0 b1 (by omega))
    have cO : (putE h7.size L.size == 0) = true → _ := fun h => OF 17 a b m n 2 0 false L p0 p1 a0 a1 b0 b1 (by omega) (by simpa using h) hO
    by_cases hx : v = 0
    · exact seen_udp_true K a m b n h0 h1 h3 h4 h5 h6 g0 g1 g2 g3 g4 g5 g6 g7 g8 ty v r h2 h7 g9 dd q _ _ w ht k7 k9 kd kq (SZ 17 a b L (by omega)) hr ty0 ty1 ix cM cP cO cM (by rw [hx]; rfl)
    · exact seen_udp_false K a m b n h0 h1 h3 h4 h5 h6 g0 g1 g2 g3 g4 g5 g6 g7 g8 ty v r h2 h7 g9 dd q _ _ w ht k7 k9 kd kq (SZ 17 a b L (by omega)) hr ty0 ty1 ix cM cP cO cM (by simpa using hx)
  · -- ICMP
    have hmn : m = 0 ∨ n = 0 := by
      unfold tmay at hmay
      simp only [Bool.or_eq_true, Bool.and_eq_true, decide_eq_true_eq] at hmay
      omega
    clear hmay
    obtain ⟨r4, hr4⟩ : ∃ x : ByteArray, x = ⟨#[46, 46, 46, 46]⟩ := ⟨_, rfl⟩
    have z4 : r4.size = 4 := by rw [hr4]; rfl
    -- all ways: the tuple as it is put (s, x, d, y), the number
    have WAY : ∀ (sa x da y k : Int), 0 ≤ sa → sa ≤ 4294967295 → 0 ≤ da → da ≤ 4294967295 → 0 ≤ k → k ≤ 65535 → bits .or .u16 x y = k →
        (∀ u : World, Calls Tryz.prog 19 #[.agg #[.int .u8 1, .int .u32 sa, .int .u16 x, .int .u32 da, .int .u16 y], .agg #[.int .u8 h0, .int .u16 h1, .bool h2, .int .u8 h3, .int .u8 h4, .int .u32 h5, .int .u32 h6, .string h7, .int .u16 g0, .int .u16 g1, .int .u32 g2, .int .u32 g3, .int .u8 g4, .int .u8 g5, .int .u16 g6, .int .u16 g7, .int .u16 g8, .string g9, .int .u8 v, .string dd]] u fun e w' => e = .returned (.tuple #[.string (putB h0 h1 h2 h3 1 sa da h7 (icP v 0 g7 (wiM r4 k) dd)), .bool ((icE (wiM r4 k).size == 0) && (putE h7.size (icP v 0 g7 (wiM r4 k) dd).size == 0))]) ∧ Below u.heap.size u w') ∧
        (putB h0 h1 h2 h3 1 sa da h7 (icP v 0 g7 (wiM r4 k) dd)).size ≤ 1000000 ∧
        (((icE (wiM r4 k).size == 0) && (putE h7.size (icP v 0 g7 (wiM r4 k) dd).size == 0)) = true → ∀ u : World, Tab u → Calls Tryz.prog 7 #[.string (putB h0 h1 h2 h3 1 sa da h7 (icP v 0 g7 (wiM r4 k) dd) ++ q)] u fun e w' => e = .returned (.tuple #[.agg #[.int .u8 1, .int .u32 sa, .int .u16 (if decide (v = 0 ∨ v = 14) then 0 else k), .int .u32 da, .int .u16 (if decide (v = 0 ∨ v = 14) then k else 0), .int .i64 2, .int .u8 0, .bool (!decide (v = 0 ∨ v = 14)), .int .u8 h3], .int .i64 0]) ∧ Below u.heap.size u w') := by
      intro sa x da y k c0 c1 c2 c3 k0 k1 ek
      have zr : (wiM r4 k).size = 4 := by rw [wiM_size, z4]
      have v0 : 0 ≤ v := by omega
      have v1 : v ≤ 255 := by omega
      have cW := fun u => icmpWith_ v 0 g7 r4 dd k u k0 k1 (by omega)
      have cL := fun u => icmpPut_ v 0 g7 (wiM r4 k) dd u v0 v1 (by omega) (by omega) g70 g71 (by omega) (by omega)
      have zL := icP_size v 0 g7 (wiM r4 k) dd
      have hO := o_icmp v g7 (wiM r4 k) dd (by omega) g70 g71 zr
      rw [wiM_id r4 k (by omega) k0 k1] at hO
      simp only at hO
      generalize wiM r4 k = r5 at *
      generalize icP v 0 g7 r5 dd = L at *
      rw [hr4] at cW
      refine ⟨lput_icmp sa x da y h0 h1 h3 h4 h5 h6 g0 g1 g2 g3 g4 g5 g6 g7 g8 v h2 h7 g9 dd L _ _ k r5 ek cW cL _ (PU 1 sa da L p0 p1 c0 c1 c2 c3 (by omega)), SZ 1 sa da L (by omega), fun h => OF 1 sa da _ _ 2 0 _ L p0 p1 c0 c1 c2 c3 (by omega) (by simp at h; exact h.2) hO⟩
    clear OF PU SZ
    have cB := fun u hu => K.backs 1 a m b n u p0 p1 a0 a1 m0 m1 b0 b1 n0 n1 hu
    by_cases hx : v = 0 ∨ v = 14
    · -- told: the Port of Src is to be 0
      by_cases hm : m = 0
      · subst hm
        obtain ⟨w1, w2, w3⟩ := WAY a 0 b n n a0 a1 b0 b1 n0 n1 (or_l n n0 n1)
        rw [decide_eq_true hx] at w3
        simp only [if_true, Bool.not_true] at w3
        by_cases hz : v = 0
        · exact seen_t1_true K a 0 b n h0 h1 h3 h4 h5 h6 g0 g1 g2 g3 g4 g5 g6 g7 g8 ty v r h2 h7 g9 dd q _ _ w ht k7 k9 kd kq w2 hr ty0 ty1 ix cM w1 w3 cM (by rw [hz]; rfl)
        · exact seen_t1_false K a 0 b n h0 h1 h3 h4 h5 h6 g0 g1 g2 g3 g4 g5 g6 g7 g8 ty v r h2 h7 g9 dd q _ _ w ht k7 k9 kd kq w2 hr ty0 ty1 ix cM w1 w3 cM (by simpa using hz) (by simp; omega)
      · have hn : n = 0 := by omega
        subst hn
        obtain ⟨w1, w2, w3⟩ := WAY b 0 a m m b0 b1 a0 a1 m0 m1 (or_l m m0 m1)
        rw [decide_eq_true hx] at w3
        simp only [if_true, Bool.not_true] at w3
        have cN := fun u hu => K.mays 1 b 0 a m u p0 p1 b0 b1 n0 n1 a0 a1 m0 m1 hu
        rw [show tmay 1 0 m = true by unfold tmay; simp] at cN
        by_cases hz : v = 0
        · exact seen_t2_true K a m b 0 h0 h1 h3 h4 h5 h6 g0 g1 g2 g3 g4 g5 g6 g7 g8 ty v r h2 h7 g9 dd q _ _ w ht k7 k9 kd kq w2 hr ty0 ty1 ix cM w1 w3 cN (by rw [hz]; rfl) (by simpa using hm) cB
        · exact seen_t2_false K a m b 0 h0 h1 h3 h4 h5 h6 g0 g1 g2 g3 g4 g5 g6 g7 g8 ty v r h2 h7 g9 dd q _ _ w ht k7 k9 kd kq w2 hr ty0 ty1 ix cM w1 w3 cN (by simpa using hz) (by simp; omega) (by simpa using hm) cB
    · -- it asks: the Port of Dst is to be 0
      have hy : (v == 0) = false := by simp; omega
      have hy2 : (v == 14) = false := by simp; omega
      by_cases hm : m = 0
      · subst hm
        obtain ⟨w1, w2, w3⟩ := WAY b n a 0 n b0 b1 a0 a1 n0 n1 (or_r n n0 n1)
        rw [decide_eq_false hx] at w3
        simp only [Bool.false_eq_true, if_false, Bool.not_false] at w3
        have cN := fun u hu => K.mays 1 b n a 0 u p0 p1 b0 b1 n0 n1 a0 a1 m0 m1 hu
        rw [show tmay 1 n 0 = true by unfold tmay; simp] at cN
        exact seen_a2 K a 0 b n h0 h1 h3 h4 h5 h6 g0 g1 g2 g3 g4 g5 g6 g7 g8 ty v r h2 h7 g9 dd q _ _ w ht k7 k9 kd kq w2 hr ty0 ty1 ix cM w1 w3 cN hy hy2 cB
      · have hn : n = 0 := by omega
        subst hn
        obtain ⟨w1, w2, w3⟩ := WAY a m b 0 m a0 a1 b0 b1 m0 m1 (or_r m m0 m1)
        rw [decide_eq_false hx] at w3
        simp only [Bool.false_eq_true, if_false, Bool.not_false] at w3
        exact seen_a1 K a m b 0 h0 h1 h3 h4 h5 h6 g0 g1 g2 g3 g4 g5 g6 g7 g8 ty v r h2 h7 g9 dd q _ _ w ht k7 k9 kd kq w2 hr ty0 ty1 ix cM w1 w3 cM hy hy2 (by simpa using hm)
end Go.Proofs.YtidkgnanfhdhdaaGreatDoor.TuplesSeen
