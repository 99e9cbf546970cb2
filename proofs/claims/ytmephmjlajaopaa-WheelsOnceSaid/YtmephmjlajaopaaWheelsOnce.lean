/- WheelsOnce (layer 15), over what is asked of the wheels. Written by gen_wheelsonce.py. -/
import Derived.Test.YtmephmjlajaopaaWf
import Derived.Test.YtmephmjlajaopaaLead
namespace Go.Proofs.Ytmephmjlajaopaa.WheelsOnce
set_option linter.unusedVariables false
set_option linter.unusedSimpArgs false
open Go.ChangeShapes Go.WideShapes Go.ChangeAt Go.RowKit Go.PlainAid
attribute [local go_sem ↓] Go.wp_at_zero Go.wp_at_succ
theorem six {z k : Int} (h0 : 0 ≤ z) (h : z.tmod 6 = k) : k = 0 ∨ k = 1 ∨ k = 2 ∨ k = 3 ∨ k = 4 ∨ k = 5 := by
  rw [Int.tmod_eq_emod_of_nonneg h0] at h
  omega
/-- How many places. -/
theorem places_ {z : Int} (h0 : 0 ≤ z) (h1 : z ≤ 255) : ∃ N : Nat, 1 ≤ N ∧ N ≤ 64 ∧ IntKind.i64.wrap z = z ∧ wrap64 (1 + z.tmod 64) = (N : Int) ∧ IntKind.i64.wrap (1 + z.tmod 64) = (N : Int) ∧ wrap64 (1 + z % 64) = (N : Int) ∧ IntKind.i64.wrap (1 + z % 64) = (N : Int) := by
  obtain ⟨m, rfl⟩ := Int.eq_ofNat_of_zero_le h0
  have e : (m : Int).tmod 64 = (m : Int) % 64 := Int.tmod_eq_emod_of_nonneg h0
  refine ⟨1 + m % 64, by omega, by omega, IntWalk.i64_in _ (by omega), ?_, ?_, ?_, ?_⟩
  · rw [e, IntWalk.wrap64_in _ (by omega)]; omega
  · rw [e, IntWalk.i64_in _ (by omega)]; omega
  · rw [IntWalk.wrap64_in _ (by omega)]; omega
  · rw [IntWalk.i64_in _ (by omega)]; omega
theorem zero_18 (u : World) : (Sem.run Try.prog (zeroValue 57) u) = .ok (.agg (intsZ 18)) u := by
  have hz : Try.t57.zero = some (.agg (intsZ 18)) := by kernel_rfl
  simp [zeroValue, go_sem, hz]
theorem ix18 {k : Nat} (h : k < 18) : (0 : Int) ≤ (k : Int) ∧ (k : Int) < 18 ∧ decide ((k : Int) < 18) = true := ⟨Int.natCast_nonneg _, by omega, by simp; omega⟩
def fillF (k : Nat) : Nat → Int := fun j => if j < k then -1 else 0
theorem fill_step (k j : Nat) : (if j = k then (-1 : Int) else fillF k j) = fillF (k + 1) j := by
  unfold fillF
  by_cases e : j = k
  · rw [if_pos e, if_pos (by omega)]
  · rw [if_neg e]
    by_cases h : j < k
    · rw [if_pos h, if_pos (by omega)]
    · rw [if_neg h, if_neg (by omega)]
def ti0 : Ti := ⟨0, 0, 0⟩
/-- The number ahead, in a Turn's list. -/
def bef (L : List Ti) : Nat → Int
  | 0 => -1
  | j + 1 => ((kOf (L.getD j ti0) : Nat) : Int)
theorem bef_at (L : List Ti) (j : Nat) : bef L (j + 1) = ((kOf (L.getD j ti0) : Nat) : Int) := rfl
theorem mem15 {L : List Ti} {j : Nat} (h : j < L.length) : L.getD j ti0 ∈ L := by
  rw [List.getD_eq_getElem?_getD, List.getElem?_eq_getElem h]
  exact List.getElem_mem h
theorem map_at15 {L : List Ti} {j : Nat} (h : j < L.length) : (L.map Ti.h).getD j (0, 0) = (L.getD j ti0).h := by
  rw [List.getD_eq_getElem?_getD, List.getD_eq_getElem?_getD, List.getElem?_map, List.getElem?_eq_getElem h]
  rfl
theorem bef_step {L : List Ti} {j : Nat} (hr : ∀ t ∈ L, 0 ≤ t.s ∧ t.s ≤ 5 ∧ 0 ≤ t.g ∧ t.g ≤ 2) (hs : L.Pairwise (fun a b => a.ahead b = true)) (h : j < L.length) :
    bef L j = -1 ∨ ∃ u ∈ L, bef L j = ((kOf u : Nat) : Int) ∧ u.d ≤ (L.getD j ti0).d ∧ (u.d = (L.getD j ti0).d → kOf u < kOf (L.getD j ti0)) := by
  cases j with
  | zero => exact .inl rfl
  | succ j =>
    refine .inr ⟨L.getD j ti0, mem15 (by omega), rfl, ?_⟩
    refine On.ahead_k (hr _ (mem15 (by omega))) (hr _ (mem15 h)) ?_
    have := List.pairwise_iff_getElem.1 hs j (j + 1) (by omega) h (by omega)
    rw [List.getD_eq_getElem?_getD, List.getElem?_eq_getElem (by omega), List.getD_eq_getElem?_getD, List.getElem?_eq_getElem h]
    exact this
def goneF (l L : List Ti) (j : Nat) : Nat → Int := fun i => if i ∈ (L.take j).map kOf then -1 else dueK l i
theorem gone_zero (l L : List Ti) (i : Nat) : dueK l i = goneF l L 0 i := by
  unfold goneF
  rw [List.take_zero, List.map_nil, if_neg List.not_mem_nil]
theorem gone_step (l : List Ti) {L : List Ti} {j : Nat} (h : j < L.length) (i : Nat) : (if i = kOf (L.getD j ti0) then (-1 : Int) else goneF l L j i) = goneF l L (j + 1) i := by
  unfold goneF
  have e : L.take (j + 1) = L.take j ++ [L.getD j ti0] := by
    rw [List.take_add_one, List.getElem?_eq_getElem h, List.getD_eq_getElem?_getD, List.getElem?_eq_getElem h]
    rfl
  rw [e, List.map_append, List.map_singleton]
  by_cases e1 : i = kOf (L.getD j ti0)
  · rw [if_pos e1, if_pos (List.mem_append.2 (.inr (by rw [e1]; exact List.mem_singleton.2 rfl)))]
  · rw [if_neg e1]
    by_cases e2 : i ∈ (L.take j).map kOf
    · rw [if_pos e2, if_pos (List.mem_append.2 (.inl e2))]
    · rw [if_neg e2, if_neg (fun h3 => (List.mem_append.1 h3).elim e2 (fun h4 => e1 (List.mem_singleton.1 h4)))]
theorem gone_all (l L : List Ti) (i : Nat) : goneF l L L.length i = if i ∈ L.map kOf then -1 else dueK l i := by
  unfold goneF
  rw [List.take_length]
def cnt (l : List Ti) (k : Nat) : Nat := (List.range k).countP (fun j => decide (0 ≤ dueK l j))
theorem cnt_step (l : List Ti) (k : Nat) : cnt l (k + 1) = cnt l k + if 0 ≤ dueK l k then 1 else 0 := by
  unfold cnt
  rw [List.range_succ, List.countP_append]
  simp
theorem cnt_le (l : List Ti) (k : Nat) : cnt l k ≤ k := Nat.le_trans List.countP_le_length (by simp)
set_option maxHeartbeats 8000000 in
set_option maxRecDepth 100000 in
theorem walk_ (K : WheelsOk) (z1 : Int) (a : Option Addr) (len cap : Nat) (l : List A15) (w : World) (hz1 : (Lit.int .u8 z1).wf = true) (v : len ≤ maxLen) (hr : A15At w a len l) :
    Calls Try.prog 5 #[.int .u8 z1, .slice a len cap] w fun e w' => e = .returned (.bool true) ∧ Below w.heap.size w w' := by
  obtain ⟨m0, m1⟩ := bounds_u8 hz1
  obtain ⟨N, N1, N2, y1, y2, y3, y4, y5⟩ := places_ m0 m1
  clear hz1
  go_enter Try.func5, Try.ntmps5
  go_wp2_with fail
  refine (K.news N _ N1 N2).mono ?_; rintro e w1 ⟨q, S1, rfl, b1, hS, R1⟩
  clear y1 y2 y3 y4 y5 m0 m1
  by_cases h1 : 150 < len
  · have e1 : decide ((150 : Int) < len) = true := by simp; omega
    have e2 : decide (150 < len) = true := by simpa using h1
    go_wp2_with fail
    refine (timed_ K _).mono ?_; rintro e w3 ⟨rfl, b3⟩
    go_wp2
    go_ret
    exact ⟨rfl, b1.trans (b3.mono b1.size)⟩
  have e1 : decide ((150 : Int) < len) = false := by simp; omega
  have e2 : decide (150 < len) = false := by simpa using h1
  have H200 := Lib.hid (Nat.le_of_not_lt h1)
  clear h1
  have zs := zero_18
  have zz := intsZ_size 18
  go_upto_region 6 with fail
  have G6 : Alone K.toObjP w (w1.alloc (.cells (intsZ 18) 57)) S1 q Wh.new := (Alone.mk R1 hS b1 : Alone K.toObjP w w1 S1 q Wh.new).on ((Below.refl _ _).alloc (Nat.le_refl _) _)
  have P0 : OnM K w (w1.alloc (.cells (intsZ 18) 57)) S1 q Wh.new w1.heap.size (fun _ => 0) := ⟨G6, ArrI.made w1 18 57, b1.size, fun h => Nat.lt_irrefl _ (K.lt R1 _ h)⟩
  obtain ⟨gd, hgd⟩ : ∃ g_, g_ = w1.heap.size := ⟨_, rfl⟩
  obtain ⟨w6, hw6⟩ : ∃ x_ : World, x_ = w1.alloc (.cells (intsZ 18) 57) := ⟨_, rfl⟩
  rw [← hgd] at P0 ⊢
  rw [← hw6] at P0 ⊢
  clear hw6 hgd G6 R1 b1 hS zs zz e1 e2
  go_loopw [8] (fun si wr => ∃ k : Nat, k ≤ 18 ∧ si = .int .i64 (k : Int) ∧ OnM K w wr S1 q Wh.new gd (fillF k)) (fun si _ => 18 - (intOf si).toNat)
  case atStart => exact ⟨0, Nat.zero_le _, rfl, P0.congr (fun j _ => rfl)⟩
  case round =>
    obtain ⟨k, hk, rfl, P1⟩ := hrel
    clear P0
    have EK := Lib.hid (step_15 (j := k) (Nat.lt_of_le_of_lt hk (by decide)))
    by_cases hk18 : k < 18
    · have HK := Lib.hid hk18
      obtain ⟨i1, i2, i3⟩ := ix18 hk18
      have c := P1.ar.at_ _ hk18
      have fz := P1.ar.frz _ hk18
      have PE := Lib.hid ((P1.set k hk18 (-1)).congr (fun j _ => fill_step k j))
      clear P1 hk hk18
      go_wp2
      go_roundw
      case rel => exact ⟨k + 1, HK.out, by simp [EK.out], PE.out⟩
      case measure => first | exact step_meas15 EK.out (step_less15 HK.out) | (simp [EK.out]; exact step_less15 HK.out) | exact step_less15 HK.out
    have k18 : k = 18 := Nat.le_antisymm hk (Nat.le_of_not_lt hk18)
    have P0 : OnM K w _ S1 q Wh.new gd (dueK Wh.new.l) := P1.congr (fun j hj => if_pos (by rw [k18]; exact hj))
    obtain ⟨kz, hkz⟩ : ∃ z_ : Int, z_ = (k : Int) := ⟨_, rfl⟩
    have t18 : decide (kz < 18) = false := decide_eq_false (by omega)
    rw [← hkz]
    clear hkz k18
    clear P1 hk hk18 EK
    go_upto_region 11 with fail
    clear t18
    go_loopw [9, 10, 11] (fun s9 s10 si wr => ∃ (i : Nat) (x : Wh) (S : Nat → Prop) (mz : Int), i ≤ len ∧ si = .int .i64 (i : Int) ∧ s9 = .int .i64 (x.last : Int) ∧ s10 = .int .i64 mz ∧ x.l.length ≤ i ∧ On x ∧ OnM K w wr S q x gd (dueK x.l)) (fun _ _ si _ => len - (intOf si).toNat)
    case atStart => exact ⟨0, _, _, _, Nat.zero_le _, rfl, rfl, rfl, Nat.le_refl _, On.new, P0⟩
    case round =>
      obtain ⟨i, x, S, mz, hi, rfl, rfl, rfl, hx, hon, P1⟩ := hrel
      clear P0
      have EW := Lib.hid (step_15 (j := i) (Nat.lt_of_le_of_lt (Nat.le_trans hi H200.out) (by decide)))
      by_cases hlt : i < len
      · obtain ⟨bx, off, rfl, hbx, hc⟩ := hr.cells.resolve_left (Nat.ne_of_gt (Nat.lt_of_le_of_lt (Nat.zero_le i) hlt))
        have hx0 := (hc i hlt).on hbx P1.al.below
        have okx := hr.okAt hlt
        obtain ⟨y, hye⟩ : ∃ y, y = l.getD i A15.zero := ⟨_, rfl⟩
        rw [← hye] at hx0 okx
        clear hye hc
        obtain ⟨c0, c1, c2, c3, c4, c5⟩ := hx0
        obtain ⟨t1, jj1, jj0⟩ := ix15 hlt
        have HL := Lib.hid hlt
        have sm : Hid (x.l.length ≤ 1000) := Nat.le_trans hx (Nat.le_trans hi (Nat.le_trans H200.out (by decide)))
        have HX := Lib.hid hx
        have ok0 := bounds_u8 okx.kd
        have ok1 := bounds_u8 okx.hh
        have ok2 := bounds_u16 okx.bb
        obtain ⟨kd, hh, bb, rs, rg, nn⟩ := y
        simp only at c0 c1 c2 c3 c4 c5 ok0 ok1 ok2
        have HO := Lib.hid (And.intro ok0 ok1)
        obtain ⟨bn, rfl⟩ := Int.eq_ofNat_of_zero_le ok2.1
        have BB : Hid (bn ≤ 65535) := by have := ok2.2; show bn ≤ 65535; omega
        have ON := Lib.hid hon
        clear ok0 ok1 ok2 okx hx hi hlt hon
        go_upto_region 14 with fail
        have P2 := P1.on ((Below.refl wr.heap.size wr).alloc (Nat.le_refl _) (.cells #[.int .u8 kd, .int .u8 hh, .int .u16 (bn : Int), .int .i64 rs, .int .u32 rg, .int .i64 nn] 36))
        have x0 : (wr.alloc (.cells #[.int .u8 kd, .int .u8 hh, .int .u16 (bn : Int), .int .i64 rs, .int .u32 rg, .int .i64 nn] 36)).cell? ⟨wr.heap.size, 0, none⟩ = some (.int .u8 kd) := by simp [go_sem]
        have x1 : (wr.alloc (.cells #[.int .u8 kd, .int .u8 hh, .int .u16 (bn : Int), .int .i64 rs, .int .u32 rg, .int .i64 nn] 36)).cell? ⟨wr.heap.size, 1, none⟩ = some (.int .u8 hh) := by simp [go_sem]
        have x2 : (wr.alloc (.cells #[.int .u8 kd, .int .u8 hh, .int .u16 (bn : Int), .int .i64 rs, .int .u32 rg, .int .i64 nn] 36)).cell? ⟨wr.heap.size, 2, none⟩ = some (.int .u16 (bn : Int)) := by simp [go_sem]
        have xz : wr.heap.size < (wr.alloc (.cells #[.int .u8 kd, .int .u8 hh, .int .u16 (bn : Int), .int .i64 rs, .int .u32 rg, .int .i64 nn] 36)).heap.size := by simp
        have xS : ¬ S wr.heap.size := fun h => Nat.lt_irrefl _ (K.lt P1.al.rep _ h)
        have xg : ¬ wr.heap.size = gd := fun e => Nat.lt_irrefl _ (e ▸ P1.ar.lt)
        obtain ⟨w4, hw4⟩ : ∃ x_ : World, x_ = wr.alloc (.cells #[.int .u8 kd, .int .u8 hh, .int .u16 (bn : Int), .int .i64 rs, .int .u32 rg, .int .i64 nn] 36) := ⟨_, rfl⟩
        rw [← hw4] at P2 x0 x1 x2 xz ⊢
        clear hw4 c0 c1 c2 c3 c4 c5 P1
        obtain ⟨xb, hxb⟩ : ∃ b_, b_ = wr.heap.size := ⟨_, rfl⟩
        rw [← hxb] at x0 x1 x2 xz xS xg ⊢
        clear hxb
        go_wp2_with fail
        refine (handle15_ hh _ HO.out.2.1 HO.out.2.2).mono ?_; rintro e w5 ⟨rfl, b5⟩
        have P5 := P2.on b5
        have x0 := (b5.cell (p := ⟨xb, 0, none⟩) xz).trans x0
        have x1 := (b5.cell (p := ⟨xb, 1, none⟩) xz).trans x1
        have x2 := (b5.cell (p := ⟨xb, 2, none⟩) xz).trans x2
        have xz := Nat.lt_of_lt_of_le xz b5.size
        clear P2 b5
        go_upto_region 15 with fail
        have bA : Below w5.heap.size w5 (w5.alloc (.cells #[.int .i64 (hS hh), .int .u32 (hG hh)] 34)) := (Below.refl _ _).alloc (Nat.le_refl _) _
        have P7 := P5.on bA
        have H7 := HBox.made w5 34 (hS hh) (hG hh)
        have x0 := (bA.cell (p := ⟨xb, 0, none⟩) xz).trans x0
        have x2 := (bA.cell (p := ⟨xb, 2, none⟩) xz).trans x2
        have nS7 : ¬ S w5.heap.size := fun h => Nat.lt_irrefl _ (K.lt P5.al.rep _ h)
        have nG7 : ¬ w5.heap.size = gd := fun e => Nat.lt_irrefl _ (e ▸ P5.ar.lt)
        obtain ⟨hb, hhb⟩ : ∃ b_, b_ = w5.heap.size := ⟨_, rfl⟩
        obtain ⟨w7, hw7⟩ : ∃ x_ : World, x_ = w5.alloc (.cells #[.int .i64 (hS hh), .int .u32 (hG hh)] 34) := ⟨_, rfl⟩
        rw [← hw7, ← hhb] at H7
        rw [← hw7] at P7 x0 x2 ⊢
        rw [← hhb] at nS7 nG7 ⊢
        clear hw7 hhb P5 bA xz x1 xS xg
        have HK := Lib.hid (h_ok HO.out.2.1 HO.out.2.2)
        obtain ⟨k, hk, ek, hr_, k1, k2, k3, k4, k5⟩ := k_facts HO.out.2.1 HO.out.2.2
        generalize hS hh = s at H7 HK ek hr_ k1 k2 k3 k4 k5
        generalize hG hh = g at H7 HK ek hr_ k1 k2 k3 k4 k5
        have KR := Lib.hid (And.intro hk (And.intro ek hr_))
        clear hk ek hr_
        have h0 := H7.c0
        have h1 := H7.c1
        have LK := Lib.hid ON.out.ok.lst
        obtain ⟨q1, q2, q3, q6, q7, qm⟩ := tick_facts LK.out BB.out
        have MT := Lib.hid (And.intro q6 q7)
        obtain ⟨m, hm⟩ : ∃ m_, m_ = tickN x.last bn := ⟨_, rfl⟩
        rw [← hm] at MT qm
        clear hm q6 q7
        generalize x.last + bn = lb at q2 q3 qm
        have PP := Lib.hid P7
        have HH := Lib.hid H7
        clear P7 H7
        go_upto_block 4 with fail
        obtain ⟨kk, hkk⟩ : ∃ k_, kd.tmod 6 = k_ := ⟨_, rfl⟩
        rw [hkk]
        clear x0 x2 h0 h1 q1 q2 q3 qm k1 k2 k3 k4 k5 t1 jj0 jj1
        go_cut [9] (fun s9 wx => ∃ (x2 : Wh) (S2 : Nat → Prop), s9 = .int .i64 (x2.last : Int) ∧ x2.l.length ≤ i + 1 ∧ On x2 ∧ OnM K w wx S2 q x2 gd (dueK x2.l))
        case first =>
          rcases six HO.out.1.1 hkk with rfl | rfl | rfl | rfl | rfl | rfl
          · as_aux_lemma =>
            have P2 := PP.out
            have H2 := HH.out
            clear PP HH
            obtain ⟨i1, i2, i3⟩ := ix18 KR.out.1
            have hhas := ON.out.has_iff KR.out.2.2
            rw [KR.out.2.1] at hhas
            obtain ⟨dv, hdv⟩ : ∃ d_, dueK x.l k = d_ := ⟨_, rfl⟩
            rw [hdv] at hhas
            clear hhas
            have HMD : Hid (Wh.mayD (m : Int)) := by
              show 0 ≤ (m : Int) ∧ (m : Int) ≤ Wh.max
              have h2 := MT.out.2
              unfold Wh.max
              omega
            by_cases hd : 0 ≤ dv
            · have d0 : decide (dv < 0) = false := decide_eq_false (by omega)
              obtain ⟨e0, e1⟩ := ON.out.put_no (n := (m : Int)) KR.out.2.2 HMD.out (by rw [KR.out.2.1, hdv]; exact hd)
              go_upto_region 18 with fail
              refine wp_region_noPanic ?_
              refine wp_region_held_drew (S := (fun w' => w'.cell? ⟨hb, 0, none⟩ = some (.int .i64 s) ∧ w'.cell? ⟨hb, 1, none⟩ = some (.int .u32 g) ∧ w'.cell? ⟨gd, k, none⟩ = some (.int .i64 dv))) (by kernel_rfl) ?_ (fun hHeld => ?_)
              · refine ⟨H2.c0, H2.c1, ?_⟩
                rw [← hdv]
                exact P2.ar.at_ _ KR.out.1
              have P5 := P2.on (Below.refl w7.heap.size w7).drew
              have H5 := H2.on (Below.refl w7.heap.size w7).drew
              obtain ⟨w5, hw5⟩ : ∃ x_ : World, x_ = w7.drew := ⟨_, rfl⟩
              rw [← hw5] at P5 H5 hHeld ⊢
              clear hw5 P2 H2
              refine wpAnyH_take (i := 0) (oi := _) (v := ?_) rfl (by kernel_rfl) (by kernel_rfl) (by kernel_rfl) (fun _ _ _ h => h) (Or.inl ⟨by kernel_rfl, ?_⟩) (by assumption) ?_
              rotate_left
              · intro w hSw
                clear hSw
                go_simp
                with_reducible rfl
              try simp only [List.getElem_toArray, List.getElem_cons_succ, List.getElem_cons_zero, Act.put, List.setIfInBounds_toArray, List.set_cons_zero, List.set_cons_succ]
              refine wpAnyH_take (i := 1) (oi := _) (v := ?_) rfl (by kernel_rfl) (by kernel_rfl) (by kernel_rfl) (fun _ _ _ h => h) (Or.inl ⟨by kernel_rfl, ?_⟩) (by assumption) ?_
              rotate_left
              · intro w hSw
                obtain ⟨hq0, hq1, hq2⟩ := hSw
                go_simp
                with_reducible rfl
              try simp only [List.getElem_toArray, List.getElem_cons_succ, List.getElem_cons_zero, Act.put, List.setIfInBounds_toArray, List.set_cons_zero, List.set_cons_succ]
              refine wpAnyH_take (i := 2) (oi := _) (v := ?_) rfl (by kernel_rfl) (by kernel_rfl) (by kernel_rfl) (fun _ _ _ h => h) (Or.inl ⟨by kernel_rfl, ?_⟩) (by assumption) ?_
              rotate_left
              · intro w hSw
                clear hSw
                go_simp
                with_reducible rfl
              try simp only [List.getElem_toArray, List.getElem_cons_succ, List.getElem_cons_zero, Act.put, List.setIfInBounds_toArray, List.set_cons_zero, List.set_cons_succ]
              refine wpAnyH_take (i := 5) (oi := _) (v := ?_) rfl (by kernel_rfl) (by kernel_rfl) (by kernel_rfl) (fun _ _ _ h => h) (Or.inl ⟨by kernel_rfl, ?_⟩) (by assumption) ?_
              rotate_left
              · intro w hSw
                clear hSw
                go_simp
                with_reducible rfl
              try simp only [List.getElem_toArray, List.getElem_cons_succ, List.getElem_cons_zero, Act.put, List.setIfInBounds_toArray, List.set_cons_zero, List.set_cons_succ]
              refine wpAnyH_take (i := 6) (oi := _) (v := ?_) rfl (by kernel_rfl) (by kernel_rfl) (by kernel_rfl) (fun _ _ _ h => h) (Or.inl ⟨by kernel_rfl, ?_⟩) (by assumption) ?_
              rotate_left
              · intro w hSw
                clear hSw
                go_simp
                with_reducible rfl
              try simp only [List.getElem_toArray, List.getElem_cons_succ, List.getElem_cons_zero, Act.put, List.setIfInBounds_toArray, List.set_cons_zero, List.set_cons_succ]
              refine wpAnyH_take (i := 7) (oi := _) (v := ?_) rfl (by kernel_rfl) (by kernel_rfl) (by kernel_rfl) (fun _ _ _ h => h) (Or.inl ⟨by kernel_rfl, ?_⟩) (by assumption) ?_
              rotate_left
              · intro w hSw
                obtain ⟨hq0, hq1, hq2⟩ := hSw
                go_simp
                with_reducible rfl
              try simp only [List.getElem_toArray, List.getElem_cons_succ, List.getElem_cons_zero, Act.put, List.setIfInBounds_toArray, List.set_cons_zero, List.set_cons_succ]
              refine wpAnyH_take (i := 8) (oi := _) (v := ?_) rfl (by kernel_rfl) (by kernel_rfl) (by kernel_rfl) (fun _ _ _ h => h) (Or.inl ⟨by kernel_rfl, ?_⟩) (by assumption) ?_
              rotate_left
              · intro w hSw
                clear hSw
                go_simp
                with_reducible rfl
              try simp only [List.getElem_toArray, List.getElem_cons_succ, List.getElem_cons_zero, Act.put, List.setIfInBounds_toArray, List.set_cons_zero, List.set_cons_succ]
              refine wpAnyH_ready (rs := [3]) (by kernel_rfl) (by simp) ?_
              refine AllReadyH.cons (o := _) rfl (fun K_ hK => ?_) AllReadyH.nil
              go_simp
              have cs := K.puts q S x s g (m : Int) _ P5.al.rep sm.out HK.out
              rw [e0, e1] at cs
              refine cs.mono ?_; rintro e w6 ⟨rfl, S6, R6, f6, x6⟩
              have P6 := P5.one R6 f6 x6
              have H6 := H5.by x6 nS7
              clear P5 H5 R6 f6 x6 cs
              show K_ _ _
              refine hK.out _ _ ⟨H6.c0, H6.c1, by rw [← hdv]; exact P6.ar.at_ _ KR.out.1⟩ (fun hH1 => ?_)
              clear hK K_ hHeld
              have hHeld := hH1
              clear hH1
              try simp only [List.getElem_toArray, List.getElem_cons_succ, List.getElem_cons_zero, Act.put, List.setIfInBounds_toArray, List.set_cons_zero, List.set_cons_succ]
              refine wpAnyH_take (i := 4) (oi := _) (v := ?_) rfl (by kernel_rfl) (by kernel_rfl) (by kernel_rfl) (fun _ _ _ h => h) (Or.inl ⟨by kernel_rfl, ?_⟩) (by assumption) ?_
              rotate_left
              · intro w hSw
                clear hSw
                go_simp
                with_reducible rfl
              try simp only [List.getElem_toArray, List.getElem_cons_succ, List.getElem_cons_zero, Act.put, List.setIfInBounds_toArray, List.set_cons_zero, List.set_cons_succ]
              refine wpAnyH_take (i := 9) (oi := _) (v := ?_) rfl (by kernel_rfl) (by kernel_rfl) (by kernel_rfl) (fun _ _ _ h => h) (Or.inl ⟨by kernel_rfl, ?_⟩) (by assumption) ?_
              rotate_left
              · intro w hSw
                clear hSw
                go_simp
                with_reducible rfl
              try simp only [List.getElem_toArray, List.getElem_cons_succ, List.getElem_cons_zero, Act.put, List.setIfInBounds_toArray, List.set_cons_zero, List.set_cons_succ]
              refine wpAnyH_done (by kernel_rfl) (NoPanic.normal ?_) _
              clear hHeld H6
              have c := P6.ar.at_ _ KR.out.1
              have fz := P6.ar.frz _ KR.out.1
              rw [hdv] at c
              have PE := Lib.hid P6
              clear P6
              go_wp2
              go_meet
              exact ⟨x, S6, rfl, Nat.le_succ_of_le HX.out, ON.out, PE.out⟩
            · have d0 : decide (dv < 0) = true := decide_eq_true (by omega)
              obtain ⟨e0, OC_⟩ := ON.out.put (n := (m : Int)) KR.out.2.2 HMD.out (by rw [KR.out.2.1, hdv]; exact hd)
              have OC := Lib.hid OC_
              clear OC_
              go_upto_region 18 with fail
              refine wp_region_noPanic ?_
              refine wp_region_held_drew (S := (fun w' => w'.cell? ⟨hb, 0, none⟩ = some (.int .i64 s) ∧ w'.cell? ⟨hb, 1, none⟩ = some (.int .u32 g) ∧ w'.cell? ⟨gd, k, none⟩ = some (.int .i64 dv))) (by kernel_rfl) ?_ (fun hHeld => ?_)
              · refine ⟨H2.c0, H2.c1, ?_⟩
                rw [← hdv]
                exact P2.ar.at_ _ KR.out.1
              have P5 := P2.on (Below.refl w7.heap.size w7).drew
              have H5 := H2.on (Below.refl w7.heap.size w7).drew
              obtain ⟨w5, hw5⟩ : ∃ x_ : World, x_ = w7.drew := ⟨_, rfl⟩
              rw [← hw5] at P5 H5 hHeld ⊢
              clear hw5 P2 H2
              refine wpAnyH_take (i := 0) (oi := _) (v := ?_) rfl (by kernel_rfl) (by kernel_rfl) (by kernel_rfl) (fun _ _ _ h => h) (Or.inl ⟨by kernel_rfl, ?_⟩) (by assumption) ?_
              rotate_left
              · intro w hSw
                clear hSw
                go_simp
                with_reducible rfl
              try simp only [List.getElem_toArray, List.getElem_cons_succ, List.getElem_cons_zero, Act.put, List.setIfInBounds_toArray, List.set_cons_zero, List.set_cons_succ]
              refine wpAnyH_take (i := 1) (oi := _) (v := ?_) rfl (by kernel_rfl) (by kernel_rfl) (by kernel_rfl) (fun _ _ _ h => h) (Or.inl ⟨by kernel_rfl, ?_⟩) (by assumption) ?_
              rotate_left
              · intro w hSw
                obtain ⟨hq0, hq1, hq2⟩ := hSw
                go_simp
                with_reducible rfl
              try simp only [List.getElem_toArray, List.getElem_cons_succ, List.getElem_cons_zero, Act.put, List.setIfInBounds_toArray, List.set_cons_zero, List.set_cons_succ]
              refine wpAnyH_take (i := 2) (oi := _) (v := ?_) rfl (by kernel_rfl) (by kernel_rfl) (by kernel_rfl) (fun _ _ _ h => h) (Or.inl ⟨by kernel_rfl, ?_⟩) (by assumption) ?_
              rotate_left
              · intro w hSw
                clear hSw
                go_simp
                with_reducible rfl
              try simp only [List.getElem_toArray, List.getElem_cons_succ, List.getElem_cons_zero, Act.put, List.setIfInBounds_toArray, List.set_cons_zero, List.set_cons_succ]
              refine wpAnyH_take (i := 5) (oi := _) (v := ?_) rfl (by kernel_rfl) (by kernel_rfl) (by kernel_rfl) (fun _ _ _ h => h) (Or.inl ⟨by kernel_rfl, ?_⟩) (by assumption) ?_
              rotate_left
              · intro w hSw
                clear hSw
                go_simp
                with_reducible rfl
              try simp only [List.getElem_toArray, List.getElem_cons_succ, List.getElem_cons_zero, Act.put, List.setIfInBounds_toArray, List.set_cons_zero, List.set_cons_succ]
              refine wpAnyH_take (i := 6) (oi := _) (v := ?_) rfl (by kernel_rfl) (by kernel_rfl) (by kernel_rfl) (fun _ _ _ h => h) (Or.inl ⟨by kernel_rfl, ?_⟩) (by assumption) ?_
              rotate_left
              · intro w hSw
                clear hSw
                go_simp
                with_reducible rfl
              try simp only [List.getElem_toArray, List.getElem_cons_succ, List.getElem_cons_zero, Act.put, List.setIfInBounds_toArray, List.set_cons_zero, List.set_cons_succ]
              refine wpAnyH_take (i := 7) (oi := _) (v := ?_) rfl (by kernel_rfl) (by kernel_rfl) (by kernel_rfl) (fun _ _ _ h => h) (Or.inl ⟨by kernel_rfl, ?_⟩) (by assumption) ?_
              rotate_left
              · intro w hSw
                obtain ⟨hq0, hq1, hq2⟩ := hSw
                go_simp
                with_reducible rfl
              try simp only [List.getElem_toArray, List.getElem_cons_succ, List.getElem_cons_zero, Act.put, List.setIfInBounds_toArray, List.set_cons_zero, List.set_cons_succ]
              refine wpAnyH_take (i := 8) (oi := _) (v := ?_) rfl (by kernel_rfl) (by kernel_rfl) (by kernel_rfl) (fun _ _ _ h => h) (Or.inl ⟨by kernel_rfl, ?_⟩) (by assumption) ?_
              rotate_left
              · intro w hSw
                clear hSw
                go_simp
                with_reducible rfl
              try simp only [List.getElem_toArray, List.getElem_cons_succ, List.getElem_cons_zero, Act.put, List.setIfInBounds_toArray, List.set_cons_zero, List.set_cons_succ]
              refine wpAnyH_ready (rs := [3]) (by kernel_rfl) (by simp) ?_
              refine AllReadyH.cons (o := _) rfl (fun K_ hK => ?_) AllReadyH.nil
              go_simp
              have cs := K.puts q S x s g (m : Int) _ P5.al.rep sm.out HK.out
              rw [e0] at cs
              refine cs.mono ?_; rintro e w6 ⟨rfl, S6, R6, f6, x6⟩
              have P6 := P5.one R6 f6 x6
              have H6 := H5.by x6 nS7
              clear P5 H5 R6 f6 x6 cs
              show K_ _ _
              refine hK.out _ _ ⟨H6.c0, H6.c1, by rw [← hdv]; exact P6.ar.at_ _ KR.out.1⟩ (fun hH1 => ?_)
              clear hK K_ hHeld
              have hHeld := hH1
              clear hH1
              try simp only [List.getElem_toArray, List.getElem_cons_succ, List.getElem_cons_zero, Act.put, List.setIfInBounds_toArray, List.set_cons_zero, List.set_cons_succ]
              refine wpAnyH_take (i := 4) (oi := _) (v := ?_) rfl (by kernel_rfl) (by kernel_rfl) (by kernel_rfl) (fun _ _ _ h => h) (Or.inl ⟨by kernel_rfl, ?_⟩) (by assumption) ?_
              rotate_left
              · intro w hSw
                clear hSw
                go_simp
                with_reducible rfl
              try simp only [List.getElem_toArray, List.getElem_cons_succ, List.getElem_cons_zero, Act.put, List.setIfInBounds_toArray, List.set_cons_zero, List.set_cons_succ]
              refine wpAnyH_take (i := 9) (oi := _) (v := ?_) rfl (by kernel_rfl) (by kernel_rfl) (by kernel_rfl) (fun _ _ _ h => h) (Or.inl ⟨by kernel_rfl, ?_⟩) (by assumption) ?_
              rotate_left
              · intro w hSw
                clear hSw
                go_simp
                with_reducible rfl
              try simp only [List.getElem_toArray, List.getElem_cons_succ, List.getElem_cons_zero, Act.put, List.setIfInBounds_toArray, List.set_cons_zero, List.set_cons_succ]
              refine wpAnyH_done (by kernel_rfl) (NoPanic.normal ?_) _
              clear hHeld H6
              have c := P6.ar.at_ _ KR.out.1
              have fz := P6.ar.frz _ KR.out.1
              rw [hdv] at c
              have PE := Lib.hid ((P6.set k KR.out.1 (m : Int)).congr (f' := dueK (x.putT s g (m : Int)).l) (fun j _ => by rw [OC.out.2.2 j, KR.out.2.1]))
              clear P6
              go_wp2
              go_meet
              exact ⟨x.putT s g (m : Int), S6, by rw [OC.out.2.1], Nat.le_trans (Wh.put_len _ _ _ _) (Nat.succ_le_succ HX.out), OC.out.1, PE.out⟩
          · as_aux_lemma =>
            have P2 := PP.out
            have H2 := HH.out
            clear PP HH
            obtain ⟨i1, i2, i3⟩ := ix18 KR.out.1
            have hhas := ON.out.has_iff KR.out.2.2
            rw [KR.out.2.1] at hhas
            obtain ⟨dv, hdv⟩ : ∃ d_, dueK x.l k = d_ := ⟨_, rfl⟩
            rw [hdv] at hhas
            clear hhas
            have HMD : Hid (Wh.mayD (m : Int)) := by
              show 0 ≤ (m : Int) ∧ (m : Int) ≤ Wh.max
              have h2 := MT.out.2
              unfold Wh.max
              omega
            by_cases hd : 0 ≤ dv
            · have d0 : decide (dv < 0) = false := decide_eq_false (by omega)
              obtain ⟨e0, e1⟩ := ON.out.put_no (n := (m : Int)) KR.out.2.2 HMD.out (by rw [KR.out.2.1, hdv]; exact hd)
              go_upto_region 18 with fail
              refine wp_region_noPanic ?_
              refine wp_region_held_drew (S := (fun w' => w'.cell? ⟨hb, 0, none⟩ = some (.int .i64 s) ∧ w'.cell? ⟨hb, 1, none⟩ = some (.int .u32 g) ∧ w'.cell? ⟨gd, k, none⟩ = some (.int .i64 dv))) (by kernel_rfl) ?_ (fun hHeld => ?_)
              · refine ⟨H2.c0, H2.c1, ?_⟩
                rw [← hdv]
                exact P2.ar.at_ _ KR.out.1
              have P5 := P2.on (Below.refl w7.heap.size w7).drew
              have H5 := H2.on (Below.refl w7.heap.size w7).drew
              obtain ⟨w5, hw5⟩ : ∃ x_ : World, x_ = w7.drew := ⟨_, rfl⟩
              rw [← hw5] at P5 H5 hHeld ⊢
              clear hw5 P2 H2
              refine wpAnyH_take (i := 0) (oi := _) (v := ?_) rfl (by kernel_rfl) (by kernel_rfl) (by kernel_rfl) (fun _ _ _ h => h) (Or.inl ⟨by kernel_rfl, ?_⟩) (by assumption) ?_
              rotate_left
              · intro w hSw
                clear hSw
                go_simp
                with_reducible rfl
              try simp only [List.getElem_toArray, List.getElem_cons_succ, List.getElem_cons_zero, Act.put, List.setIfInBounds_toArray, List.set_cons_zero, List.set_cons_succ]
              refine wpAnyH_take (i := 1) (oi := _) (v := ?_) rfl (by kernel_rfl) (by kernel_rfl) (by kernel_rfl) (fun _ _ _ h => h) (Or.inl ⟨by kernel_rfl, ?_⟩) (by assumption) ?_
              rotate_left
              · intro w hSw
                obtain ⟨hq0, hq1, hq2⟩ := hSw
                go_simp
                with_reducible rfl
              try simp only [List.getElem_toArray, List.getElem_cons_succ, List.getElem_cons_zero, Act.put, List.setIfInBounds_toArray, List.set_cons_zero, List.set_cons_succ]
              refine wpAnyH_take (i := 2) (oi := _) (v := ?_) rfl (by kernel_rfl) (by kernel_rfl) (by kernel_rfl) (fun _ _ _ h => h) (Or.inl ⟨by kernel_rfl, ?_⟩) (by assumption) ?_
              rotate_left
              · intro w hSw
                clear hSw
                go_simp
                with_reducible rfl
              try simp only [List.getElem_toArray, List.getElem_cons_succ, List.getElem_cons_zero, Act.put, List.setIfInBounds_toArray, List.set_cons_zero, List.set_cons_succ]
              refine wpAnyH_take (i := 5) (oi := _) (v := ?_) rfl (by kernel_rfl) (by kernel_rfl) (by kernel_rfl) (fun _ _ _ h => h) (Or.inl ⟨by kernel_rfl, ?_⟩) (by assumption) ?_
              rotate_left
              · intro w hSw
                clear hSw
                go_simp
                with_reducible rfl
              try simp only [List.getElem_toArray, List.getElem_cons_succ, List.getElem_cons_zero, Act.put, List.setIfInBounds_toArray, List.set_cons_zero, List.set_cons_succ]
              refine wpAnyH_take (i := 6) (oi := _) (v := ?_) rfl (by kernel_rfl) (by kernel_rfl) (by kernel_rfl) (fun _ _ _ h => h) (Or.inl ⟨by kernel_rfl, ?_⟩) (by assumption) ?_
              rotate_left
              · intro w hSw
                clear hSw
                go_simp
                with_reducible rfl
              try simp only [List.getElem_toArray, List.getElem_cons_succ, List.getElem_cons_zero, Act.put, List.setIfInBounds_toArray, List.set_cons_zero, List.set_cons_succ]
              refine wpAnyH_take (i := 7) (oi := _) (v := ?_) rfl (by kernel_rfl) (by kernel_rfl) (by kernel_rfl) (fun _ _ _ h => h) (Or.inl ⟨by kernel_rfl, ?_⟩) (by assumption) ?_
              rotate_left
              · intro w hSw
                obtain ⟨hq0, hq1, hq2⟩ := hSw
                go_simp
                with_reducible rfl
              try simp only [List.getElem_toArray, List.getElem_cons_succ, List.getElem_cons_zero, Act.put, List.setIfInBounds_toArray, List.set_cons_zero, List.set_cons_succ]
              refine wpAnyH_take (i := 8) (oi := _) (v := ?_) rfl (by kernel_rfl) (by kernel_rfl) (by kernel_rfl) (fun _ _ _ h => h) (Or.inl ⟨by kernel_rfl, ?_⟩) (by assumption) ?_
              rotate_left
              · intro w hSw
                clear hSw
                go_simp
                with_reducible rfl
              try simp only [List.getElem_toArray, List.getElem_cons_succ, List.getElem_cons_zero, Act.put, List.setIfInBounds_toArray, List.set_cons_zero, List.set_cons_succ]
              refine wpAnyH_ready (rs := [3]) (by kernel_rfl) (by simp) ?_
              refine AllReadyH.cons (o := _) rfl (fun K_ hK => ?_) AllReadyH.nil
              go_simp
              have cs := K.puts q S x s g (m : Int) _ P5.al.rep sm.out HK.out
              rw [e0, e1] at cs
              refine cs.mono ?_; rintro e w6 ⟨rfl, S6, R6, f6, x6⟩
              have P6 := P5.one R6 f6 x6
              have H6 := H5.by x6 nS7
              clear P5 H5 R6 f6 x6 cs
              show K_ _ _
              refine hK.out _ _ ⟨H6.c0, H6.c1, by rw [← hdv]; exact P6.ar.at_ _ KR.out.1⟩ (fun hH1 => ?_)
              clear hK K_ hHeld
              have hHeld := hH1
              clear hH1
              try simp only [List.getElem_toArray, List.getElem_cons_succ, List.getElem_cons_zero, Act.put, List.setIfInBounds_toArray, List.set_cons_zero, List.set_cons_succ]
              refine wpAnyH_take (i := 4) (oi := _) (v := ?_) rfl (by kernel_rfl) (by kernel_rfl) (by kernel_rfl) (fun _ _ _ h => h) (Or.inl ⟨by kernel_rfl, ?_⟩) (by assumption) ?_
              rotate_left
              · intro w hSw
                clear hSw
                go_simp
                with_reducible rfl
              try simp only [List.getElem_toArray, List.getElem_cons_succ, List.getElem_cons_zero, Act.put, List.setIfInBounds_toArray, List.set_cons_zero, List.set_cons_succ]
              refine wpAnyH_take (i := 9) (oi := _) (v := ?_) rfl (by kernel_rfl) (by kernel_rfl) (by kernel_rfl) (fun _ _ _ h => h) (Or.inl ⟨by kernel_rfl, ?_⟩) (by assumption) ?_
              rotate_left
              · intro w hSw
                clear hSw
                go_simp
                with_reducible rfl
              try simp only [List.getElem_toArray, List.getElem_cons_succ, List.getElem_cons_zero, Act.put, List.setIfInBounds_toArray, List.set_cons_zero, List.set_cons_succ]
              refine wpAnyH_done (by kernel_rfl) (NoPanic.normal ?_) _
              clear hHeld H6
              have c := P6.ar.at_ _ KR.out.1
              have fz := P6.ar.frz _ KR.out.1
              rw [hdv] at c
              have PE := Lib.hid P6
              clear P6
              go_wp2
              go_meet
              exact ⟨x, S6, rfl, Nat.le_succ_of_le HX.out, ON.out, PE.out⟩
            · have d0 : decide (dv < 0) = true := decide_eq_true (by omega)
              obtain ⟨e0, OC_⟩ := ON.out.put (n := (m : Int)) KR.out.2.2 HMD.out (by rw [KR.out.2.1, hdv]; exact hd)
              have OC := Lib.hid OC_
              clear OC_
              go_upto_region 18 with fail
              refine wp_region_noPanic ?_
              refine wp_region_held_drew (S := (fun w' => w'.cell? ⟨hb, 0, none⟩ = some (.int .i64 s) ∧ w'.cell? ⟨hb, 1, none⟩ = some (.int .u32 g) ∧ w'.cell? ⟨gd, k, none⟩ = some (.int .i64 dv))) (by kernel_rfl) ?_ (fun hHeld => ?_)
              · refine ⟨H2.c0, H2.c1, ?_⟩
                rw [← hdv]
                exact P2.ar.at_ _ KR.out.1
              have P5 := P2.on (Below.refl w7.heap.size w7).drew
              have H5 := H2.on (Below.refl w7.heap.size w7).drew
              obtain ⟨w5, hw5⟩ : ∃ x_ : World, x_ = w7.drew := ⟨_, rfl⟩
              rw [← hw5] at P5 H5 hHeld ⊢
              clear hw5 P2 H2
              refine wpAnyH_take (i := 0) (oi := _) (v := ?_) rfl (by kernel_rfl) (by kernel_rfl) (by kernel_rfl) (fun _ _ _ h => h) (Or.inl ⟨by kernel_rfl, ?_⟩) (by assumption) ?_
              rotate_left
              · intro w hSw
                clear hSw
                go_simp
                with_reducible rfl
              try simp only [List.getElem_toArray, List.getElem_cons_succ, List.getElem_cons_zero, Act.put, List.setIfInBounds_toArray, List.set_cons_zero, List.set_cons_succ]
              refine wpAnyH_take (i := 1) (oi := _) (v := ?_) rfl (by kernel_rfl) (by kernel_rfl) (by kernel_rfl) (fun _ _ _ h => h) (Or.inl ⟨by kernel_rfl, ?_⟩) (by assumption) ?_
              rotate_left
              · intro w hSw
                obtain ⟨hq0, hq1, hq2⟩ := hSw
                go_simp
                with_reducible rfl
              try simp only [List.getElem_toArray, List.getElem_cons_succ, List.getElem_cons_zero, Act.put, List.setIfInBounds_toArray, List.set_cons_zero, List.set_cons_succ]
              refine wpAnyH_take (i := 2) (oi := _) (v := ?_) rfl (by kernel_rfl) (by kernel_rfl) (by kernel_rfl) (fun _ _ _ h => h) (Or.inl ⟨by kernel_rfl, ?_⟩) (by assumption) ?_
              rotate_left
              · intro w hSw
                clear hSw
                go_simp
                with_reducible rfl
              try simp only [List.getElem_toArray, List.getElem_cons_succ, List.getElem_cons_zero, Act.put, List.setIfInBounds_toArray, List.set_cons_zero, List.set_cons_succ]
              refine wpAnyH_take (i := 5) (oi := _) (v := ?_) rfl (by kernel_rfl) (by kernel_rfl) (by kernel_rfl) (fun _ _ _ h => h) (Or.inl ⟨by kernel_rfl, ?_⟩) (by assumption) ?_
              rotate_left
              · intro w hSw
                clear hSw
                go_simp
                with_reducible rfl
              try simp only [List.getElem_toArray, List.getElem_cons_succ, List.getElem_cons_zero, Act.put, List.setIfInBounds_toArray, List.set_cons_zero, List.set_cons_succ]
              refine wpAnyH_take (i := 6) (oi := _) (v := ?_) rfl (by kernel_rfl) (by kernel_rfl) (by kernel_rfl) (fun _ _ _ h => h) (Or.inl ⟨by kernel_rfl, ?_⟩) (by assumption) ?_
              rotate_left
              · intro w hSw
                clear hSw
                go_simp
                with_reducible rfl
              try simp only [List.getElem_toArray, List.getElem_cons_succ, List.getElem_cons_zero, Act.put, List.setIfInBounds_toArray, List.set_cons_zero, List.set_cons_succ]
              refine wpAnyH_take (i := 7) (oi := _) (v := ?_) rfl (by kernel_rfl) (by kernel_rfl) (by kernel_rfl) (fun _ _ _ h => h) (Or.inl ⟨by kernel_rfl, ?_⟩) (by assumption) ?_
              rotate_left
              · intro w hSw
                obtain ⟨hq0, hq1, hq2⟩ := hSw
                go_simp
                with_reducible rfl
              try simp only [List.getElem_toArray, List.getElem_cons_succ, List.getElem_cons_zero, Act.put, List.setIfInBounds_toArray, List.set_cons_zero, List.set_cons_succ]
              refine wpAnyH_take (i := 8) (oi := _) (v := ?_) rfl (by kernel_rfl) (by kernel_rfl) (by kernel_rfl) (fun _ _ _ h => h) (Or.inl ⟨by kernel_rfl, ?_⟩) (by assumption) ?_
              rotate_left
              · intro w hSw
                clear hSw
                go_simp
                with_reducible rfl
              try simp only [List.getElem_toArray, List.getElem_cons_succ, List.getElem_cons_zero, Act.put, List.setIfInBounds_toArray, List.set_cons_zero, List.set_cons_succ]
              refine wpAnyH_ready (rs := [3]) (by kernel_rfl) (by simp) ?_
              refine AllReadyH.cons (o := _) rfl (fun K_ hK => ?_) AllReadyH.nil
              go_simp
              have cs := K.puts q S x s g (m : Int) _ P5.al.rep sm.out HK.out
              rw [e0] at cs
              refine cs.mono ?_; rintro e w6 ⟨rfl, S6, R6, f6, x6⟩
              have P6 := P5.one R6 f6 x6
              have H6 := H5.by x6 nS7
              clear P5 H5 R6 f6 x6 cs
              show K_ _ _
              refine hK.out _ _ ⟨H6.c0, H6.c1, by rw [← hdv]; exact P6.ar.at_ _ KR.out.1⟩ (fun hH1 => ?_)
              clear hK K_ hHeld
              have hHeld := hH1
              clear hH1
              try simp only [List.getElem_toArray, List.getElem_cons_succ, List.getElem_cons_zero, Act.put, List.setIfInBounds_toArray, List.set_cons_zero, List.set_cons_succ]
              refine wpAnyH_take (i := 4) (oi := _) (v := ?_) rfl (by kernel_rfl) (by kernel_rfl) (by kernel_rfl) (fun _ _ _ h => h) (Or.inl ⟨by kernel_rfl, ?_⟩) (by assumption) ?_
              rotate_left
              · intro w hSw
                clear hSw
                go_simp
                with_reducible rfl
              try simp only [List.getElem_toArray, List.getElem_cons_succ, List.getElem_cons_zero, Act.put, List.setIfInBounds_toArray, List.set_cons_zero, List.set_cons_succ]
              refine wpAnyH_take (i := 9) (oi := _) (v := ?_) rfl (by kernel_rfl) (by kernel_rfl) (by kernel_rfl) (fun _ _ _ h => h) (Or.inl ⟨by kernel_rfl, ?_⟩) (by assumption) ?_
              rotate_left
              · intro w hSw
                clear hSw
                go_simp
                with_reducible rfl
              try simp only [List.getElem_toArray, List.getElem_cons_succ, List.getElem_cons_zero, Act.put, List.setIfInBounds_toArray, List.set_cons_zero, List.set_cons_succ]
              refine wpAnyH_done (by kernel_rfl) (NoPanic.normal ?_) _
              clear hHeld H6
              have c := P6.ar.at_ _ KR.out.1
              have fz := P6.ar.frz _ KR.out.1
              rw [hdv] at c
              have PE := Lib.hid ((P6.set k KR.out.1 (m : Int)).congr (f' := dueK (x.putT s g (m : Int)).l) (fun j _ => by rw [OC.out.2.2 j, KR.out.2.1]))
              clear P6
              go_wp2
              go_meet
              exact ⟨x.putT s g (m : Int), S6, by rw [OC.out.2.1], Nat.le_trans (Wh.put_len _ _ _ _) (Nat.succ_le_succ HX.out), OC.out.1, PE.out⟩
          · as_aux_lemma =>
            have P2 := PP.out
            have H2 := HH.out
            clear PP HH
            obtain ⟨i1, i2, i3⟩ := ix18 KR.out.1
            have hhas := ON.out.has_iff KR.out.2.2
            rw [KR.out.2.1] at hhas
            obtain ⟨dv, hdv⟩ : ∃ d_, dueK x.l k = d_ := ⟨_, rfl⟩
            rw [hdv] at hhas
            clear hhas
            have HMD : Hid (Wh.mayD (m : Int)) := by
              show 0 ≤ (m : Int) ∧ (m : Int) ≤ Wh.max
              have h2 := MT.out.2
              unfold Wh.max
              omega
            by_cases hd : 0 ≤ dv
            · have d0 : decide (dv < 0) = false := decide_eq_false (by omega)
              obtain ⟨e0, e1⟩ := ON.out.put_no (n := (m : Int)) KR.out.2.2 HMD.out (by rw [KR.out.2.1, hdv]; exact hd)
              go_upto_region 18 with fail
              refine wp_region_noPanic ?_
              refine wp_region_held_drew (S := (fun w' => w'.cell? ⟨hb, 0, none⟩ = some (.int .i64 s) ∧ w'.cell? ⟨hb, 1, none⟩ = some (.int .u32 g) ∧ w'.cell? ⟨gd, k, none⟩ = some (.int .i64 dv))) (by kernel_rfl) ?_ (fun hHeld => ?_)
              · refine ⟨H2.c0, H2.c1, ?_⟩
                rw [← hdv]
                exact P2.ar.at_ _ KR.out.1
              have P5 := P2.on (Below.refl w7.heap.size w7).drew
              have H5 := H2.on (Below.refl w7.heap.size w7).drew
              obtain ⟨w5, hw5⟩ : ∃ x_ : World, x_ = w7.drew := ⟨_, rfl⟩
              rw [← hw5] at P5 H5 hHeld ⊢
              clear hw5 P2 H2
              refine wpAnyH_take (i := 0) (oi := _) (v := ?_) rfl (by kernel_rfl) (by kernel_rfl) (by kernel_rfl) (fun _ _ _ h => h) (Or.inl ⟨by kernel_rfl, ?_⟩) (by assumption) ?_
              rotate_left
              · intro w hSw
                clear hSw
                go_simp
                with_reducible rfl
              try simp only [List.getElem_toArray, List.getElem_cons_succ, List.getElem_cons_zero, Act.put, List.setIfInBounds_toArray, List.set_cons_zero, List.set_cons_succ]
              refine wpAnyH_take (i := 1) (oi := _) (v := ?_) rfl (by kernel_rfl) (by kernel_rfl) (by kernel_rfl) (fun _ _ _ h => h) (Or.inl ⟨by kernel_rfl, ?_⟩) (by assumption) ?_
              rotate_left
              · intro w hSw
                obtain ⟨hq0, hq1, hq2⟩ := hSw
                go_simp
                with_reducible rfl
              try simp only [List.getElem_toArray, List.getElem_cons_succ, List.getElem_cons_zero, Act.put, List.setIfInBounds_toArray, List.set_cons_zero, List.set_cons_succ]
              refine wpAnyH_take (i := 2) (oi := _) (v := ?_) rfl (by kernel_rfl) (by kernel_rfl) (by kernel_rfl) (fun _ _ _ h => h) (Or.inl ⟨by kernel_rfl, ?_⟩) (by assumption) ?_
              rotate_left
              · intro w hSw
                clear hSw
                go_simp
                with_reducible rfl
              try simp only [List.getElem_toArray, List.getElem_cons_succ, List.getElem_cons_zero, Act.put, List.setIfInBounds_toArray, List.set_cons_zero, List.set_cons_succ]
              refine wpAnyH_take (i := 5) (oi := _) (v := ?_) rfl (by kernel_rfl) (by kernel_rfl) (by kernel_rfl) (fun _ _ _ h => h) (Or.inl ⟨by kernel_rfl, ?_⟩) (by assumption) ?_
              rotate_left
              · intro w hSw
                clear hSw
                go_simp
                with_reducible rfl
              try simp only [List.getElem_toArray, List.getElem_cons_succ, List.getElem_cons_zero, Act.put, List.setIfInBounds_toArray, List.set_cons_zero, List.set_cons_succ]
              refine wpAnyH_take (i := 6) (oi := _) (v := ?_) rfl (by kernel_rfl) (by kernel_rfl) (by kernel_rfl) (fun _ _ _ h => h) (Or.inl ⟨by kernel_rfl, ?_⟩) (by assumption) ?_
              rotate_left
              · intro w hSw
                clear hSw
                go_simp
                with_reducible rfl
              try simp only [List.getElem_toArray, List.getElem_cons_succ, List.getElem_cons_zero, Act.put, List.setIfInBounds_toArray, List.set_cons_zero, List.set_cons_succ]
              refine wpAnyH_take (i := 7) (oi := _) (v := ?_) rfl (by kernel_rfl) (by kernel_rfl) (by kernel_rfl) (fun _ _ _ h => h) (Or.inl ⟨by kernel_rfl, ?_⟩) (by assumption) ?_
              rotate_left
              · intro w hSw
                obtain ⟨hq0, hq1, hq2⟩ := hSw
                go_simp
                with_reducible rfl
              try simp only [List.getElem_toArray, List.getElem_cons_succ, List.getElem_cons_zero, Act.put, List.setIfInBounds_toArray, List.set_cons_zero, List.set_cons_succ]
              refine wpAnyH_take (i := 8) (oi := _) (v := ?_) rfl (by kernel_rfl) (by kernel_rfl) (by kernel_rfl) (fun _ _ _ h => h) (Or.inl ⟨by kernel_rfl, ?_⟩) (by assumption) ?_
              rotate_left
              · intro w hSw
                clear hSw
                go_simp
                with_reducible rfl
              try simp only [List.getElem_toArray, List.getElem_cons_succ, List.getElem_cons_zero, Act.put, List.setIfInBounds_toArray, List.set_cons_zero, List.set_cons_succ]
              refine wpAnyH_ready (rs := [3]) (by kernel_rfl) (by simp) ?_
              refine AllReadyH.cons (o := _) rfl (fun K_ hK => ?_) AllReadyH.nil
              go_simp
              have cs := K.puts q S x s g (m : Int) _ P5.al.rep sm.out HK.out
              rw [e0, e1] at cs
              refine cs.mono ?_; rintro e w6 ⟨rfl, S6, R6, f6, x6⟩
              have P6 := P5.one R6 f6 x6
              have H6 := H5.by x6 nS7
              clear P5 H5 R6 f6 x6 cs
              show K_ _ _
              refine hK.out _ _ ⟨H6.c0, H6.c1, by rw [← hdv]; exact P6.ar.at_ _ KR.out.1⟩ (fun hH1 => ?_)
              clear hK K_ hHeld
              have hHeld := hH1
              clear hH1
              try simp only [List.getElem_toArray, List.getElem_cons_succ, List.getElem_cons_zero, Act.put, List.setIfInBounds_toArray, List.set_cons_zero, List.set_cons_succ]
              refine wpAnyH_take (i := 4) (oi := _) (v := ?_) rfl (by kernel_rfl) (by kernel_rfl) (by kernel_rfl) (fun _ _ _ h => h) (Or.inl ⟨by kernel_rfl, ?_⟩) (by assumption) ?_
              rotate_left
              · intro w hSw
                clear hSw
                go_simp
                with_reducible rfl
              try simp only [List.getElem_toArray, List.getElem_cons_succ, List.getElem_cons_zero, Act.put, List.setIfInBounds_toArray, List.set_cons_zero, List.set_cons_succ]
              refine wpAnyH_take (i := 9) (oi := _) (v := ?_) rfl (by kernel_rfl) (by kernel_rfl) (by kernel_rfl) (fun _ _ _ h => h) (Or.inl ⟨by kernel_rfl, ?_⟩) (by assumption) ?_
              rotate_left
              · intro w hSw
                clear hSw
                go_simp
                with_reducible rfl
              try simp only [List.getElem_toArray, List.getElem_cons_succ, List.getElem_cons_zero, Act.put, List.setIfInBounds_toArray, List.set_cons_zero, List.set_cons_succ]
              refine wpAnyH_done (by kernel_rfl) (NoPanic.normal ?_) _
              clear hHeld H6
              have c := P6.ar.at_ _ KR.out.1
              have fz := P6.ar.frz _ KR.out.1
              rw [hdv] at c
              have PE := Lib.hid P6
              clear P6
              go_wp2
              go_meet
              exact ⟨x, S6, rfl, Nat.le_succ_of_le HX.out, ON.out, PE.out⟩
            · have d0 : decide (dv < 0) = true := decide_eq_true (by omega)
              obtain ⟨e0, OC_⟩ := ON.out.put (n := (m : Int)) KR.out.2.2 HMD.out (by rw [KR.out.2.1, hdv]; exact hd)
              have OC := Lib.hid OC_
              clear OC_
              go_upto_region 18 with fail
              refine wp_region_noPanic ?_
              refine wp_region_held_drew (S := (fun w' => w'.cell? ⟨hb, 0, none⟩ = some (.int .i64 s) ∧ w'.cell? ⟨hb, 1, none⟩ = some (.int .u32 g) ∧ w'.cell? ⟨gd, k, none⟩ = some (.int .i64 dv))) (by kernel_rfl) ?_ (fun hHeld => ?_)
              · refine ⟨H2.c0, H2.c1, ?_⟩
                rw [← hdv]
                exact P2.ar.at_ _ KR.out.1
              have P5 := P2.on (Below.refl w7.heap.size w7).drew
              have H5 := H2.on (Below.refl w7.heap.size w7).drew
              obtain ⟨w5, hw5⟩ : ∃ x_ : World, x_ = w7.drew := ⟨_, rfl⟩
              rw [← hw5] at P5 H5 hHeld ⊢
              clear hw5 P2 H2
              refine wpAnyH_take (i := 0) (oi := _) (v := ?_) rfl (by kernel_rfl) (by kernel_rfl) (by kernel_rfl) (fun _ _ _ h => h) (Or.inl ⟨by kernel_rfl, ?_⟩) (by assumption) ?_
              rotate_left
              · intro w hSw
                clear hSw
                go_simp
                with_reducible rfl
              try simp only [List.getElem_toArray, List.getElem_cons_succ, List.getElem_cons_zero, Act.put, List.setIfInBounds_toArray, List.set_cons_zero, List.set_cons_succ]
              refine wpAnyH_take (i := 1) (oi := _) (v := ?_) rfl (by kernel_rfl) (by kernel_rfl) (by kernel_rfl) (fun _ _ _ h => h) (Or.inl ⟨by kernel_rfl, ?_⟩) (by assumption) ?_
              rotate_left
              · intro w hSw
                obtain ⟨hq0, hq1, hq2⟩ := hSw
                go_simp
                with_reducible rfl
              try simp only [List.getElem_toArray, List.getElem_cons_succ, List.getElem_cons_zero, Act.put, List.setIfInBounds_toArray, List.set_cons_zero, List.set_cons_succ]
              refine wpAnyH_take (i := 2) (oi := _) (v := ?_) rfl (by kernel_rfl) (by kernel_rfl) (by kernel_rfl) (fun _ _ _ h => h) (Or.inl ⟨by kernel_rfl, ?_⟩) (by assumption) ?_
              rotate_left
              · intro w hSw
                clear hSw
                go_simp
                with_reducible rfl
              try simp only [List.getElem_toArray, List.getElem_cons_succ, List.getElem_cons_zero, Act.put, List.setIfInBounds_toArray, List.set_cons_zero, List.set_cons_succ]
              refine wpAnyH_take (i := 5) (oi := _) (v := ?_) rfl (by kernel_rfl) (by kernel_rfl) (by kernel_rfl) (fun _ _ _ h => h) (Or.inl ⟨by kernel_rfl, ?_⟩) (by assumption) ?_
              rotate_left
              · intro w hSw
                clear hSw
                go_simp
                with_reducible rfl
              try simp only [List.getElem_toArray, List.getElem_cons_succ, List.getElem_cons_zero, Act.put, List.setIfInBounds_toArray, List.set_cons_zero, List.set_cons_succ]
              refine wpAnyH_take (i := 6) (oi := _) (v := ?_) rfl (by kernel_rfl) (by kernel_rfl) (by kernel_rfl) (fun _ _ _ h => h) (Or.inl ⟨by kernel_rfl, ?_⟩) (by assumption) ?_
              rotate_left
              · intro w hSw
                clear hSw
                go_simp
                with_reducible rfl
              try simp only [List.getElem_toArray, List.getElem_cons_succ, List.getElem_cons_zero, Act.put, List.setIfInBounds_toArray, List.set_cons_zero, List.set_cons_succ]
              refine wpAnyH_take (i := 7) (oi := _) (v := ?_) rfl (by kernel_rfl) (by kernel_rfl) (by kernel_rfl) (fun _ _ _ h => h) (Or.inl ⟨by kernel_rfl, ?_⟩) (by assumption) ?_
              rotate_left
              · intro w hSw
                obtain ⟨hq0, hq1, hq2⟩ := hSw
                go_simp
                with_reducible rfl
              try simp only [List.getElem_toArray, List.getElem_cons_succ, List.getElem_cons_zero, Act.put, List.setIfInBounds_toArray, List.set_cons_zero, List.set_cons_succ]
              refine wpAnyH_take (i := 8) (oi := _) (v := ?_) rfl (by kernel_rfl) (by kernel_rfl) (by kernel_rfl) (fun _ _ _ h => h) (Or.inl ⟨by kernel_rfl, ?_⟩) (by assumption) ?_
              rotate_left
              · intro w hSw
                clear hSw
                go_simp
                with_reducible rfl
              try simp only [List.getElem_toArray, List.getElem_cons_succ, List.getElem_cons_zero, Act.put, List.setIfInBounds_toArray, List.set_cons_zero, List.set_cons_succ]
              refine wpAnyH_ready (rs := [3]) (by kernel_rfl) (by simp) ?_
              refine AllReadyH.cons (o := _) rfl (fun K_ hK => ?_) AllReadyH.nil
              go_simp
              have cs := K.puts q S x s g (m : Int) _ P5.al.rep sm.out HK.out
              rw [e0] at cs
              refine cs.mono ?_; rintro e w6 ⟨rfl, S6, R6, f6, x6⟩
              have P6 := P5.one R6 f6 x6
              have H6 := H5.by x6 nS7
              clear P5 H5 R6 f6 x6 cs
              show K_ _ _
              refine hK.out _ _ ⟨H6.c0, H6.c1, by rw [← hdv]; exact P6.ar.at_ _ KR.out.1⟩ (fun hH1 => ?_)
              clear hK K_ hHeld
              have hHeld := hH1
              clear hH1
              try simp only [List.getElem_toArray, List.getElem_cons_succ, List.getElem_cons_zero, Act.put, List.setIfInBounds_toArray, List.set_cons_zero, List.set_cons_succ]
              refine wpAnyH_take (i := 4) (oi := _) (v := ?_) rfl (by kernel_rfl) (by kernel_rfl) (by kernel_rfl) (fun _ _ _ h => h) (Or.inl ⟨by kernel_rfl, ?_⟩) (by assumption) ?_
              rotate_left
              · intro w hSw
                clear hSw
                go_simp
                with_reducible rfl
              try simp only [List.getElem_toArray, List.getElem_cons_succ, List.getElem_cons_zero, Act.put, List.setIfInBounds_toArray, List.set_cons_zero, List.set_cons_succ]
              refine wpAnyH_take (i := 9) (oi := _) (v := ?_) rfl (by kernel_rfl) (by kernel_rfl) (by kernel_rfl) (fun _ _ _ h => h) (Or.inl ⟨by kernel_rfl, ?_⟩) (by assumption) ?_
              rotate_left
              · intro w hSw
                clear hSw
                go_simp
                with_reducible rfl
              try simp only [List.getElem_toArray, List.getElem_cons_succ, List.getElem_cons_zero, Act.put, List.setIfInBounds_toArray, List.set_cons_zero, List.set_cons_succ]
              refine wpAnyH_done (by kernel_rfl) (NoPanic.normal ?_) _
              clear hHeld H6
              have c := P6.ar.at_ _ KR.out.1
              have fz := P6.ar.frz _ KR.out.1
              rw [hdv] at c
              have PE := Lib.hid ((P6.set k KR.out.1 (m : Int)).congr (f' := dueK (x.putT s g (m : Int)).l) (fun j _ => by rw [OC.out.2.2 j, KR.out.2.1]))
              clear P6
              go_wp2
              go_meet
              exact ⟨x.putT s g (m : Int), S6, by rw [OC.out.2.1], Nat.le_trans (Wh.put_len _ _ _ _) (Nat.succ_le_succ HX.out), OC.out.1, PE.out⟩
          · as_aux_lemma =>
            have P2 := PP.out
            have H2 := HH.out
            clear PP HH
            obtain ⟨i1, i2, i3⟩ := ix18 KR.out.1
            have hhas := ON.out.has_iff KR.out.2.2
            rw [KR.out.2.1] at hhas
            obtain ⟨dv, hdv⟩ : ∃ d_, dueK x.l k = d_ := ⟨_, rfl⟩
            rw [hdv] at hhas
            obtain ⟨b, hbv⟩ : ∃ b_, decide (0 ≤ dv) = b_ := ⟨_, rfl⟩
            rw [hbv] at hhas
            have OC := Lib.hid (ON.out.cut (s := s) (g := g) KR.out.2.2)
            go_upto_region 23 with fail
            refine wp_region_noPanic ?_
            refine wp_region_held_drew (S := (fun w' => w'.cell? ⟨hb, 0, none⟩ = some (.int .i64 s) ∧ w'.cell? ⟨hb, 1, none⟩ = some (.int .u32 g) ∧ w'.cell? ⟨gd, k, none⟩ = some (.int .i64 dv))) (by kernel_rfl) ?_ (fun hHeld => ?_)
            · refine ⟨H2.c0, H2.c1, ?_⟩
              rw [← hdv]
              exact P2.ar.at_ _ KR.out.1
            have P5 := P2.on (Below.refl w7.heap.size w7).drew
            have H5 := H2.on (Below.refl w7.heap.size w7).drew
            obtain ⟨w5, hw5⟩ : ∃ x_ : World, x_ = w7.drew := ⟨_, rfl⟩
            rw [← hw5] at P5 H5 hHeld ⊢
            clear hw5 P2 H2
            refine wpAnyH_take (i := 0) (oi := _) (v := ?_) rfl (by kernel_rfl) (by kernel_rfl) (by kernel_rfl) (fun _ _ _ h => h) (Or.inl ⟨by kernel_rfl, ?_⟩) (by assumption) ?_
            rotate_left
            · intro w hSw
              clear hSw
              go_simp
              with_reducible rfl
            try simp only [List.getElem_toArray, List.getElem_cons_succ, List.getElem_cons_zero, Act.put, List.setIfInBounds_toArray, List.set_cons_zero, List.set_cons_succ]
            refine wpAnyH_take (i := 1) (oi := _) (v := ?_) rfl (by kernel_rfl) (by kernel_rfl) (by kernel_rfl) (fun _ _ _ h => h) (Or.inl ⟨by kernel_rfl, ?_⟩) (by assumption) ?_
            rotate_left
            · intro w hSw
              obtain ⟨hq0, hq1, hq2⟩ := hSw
              go_simp
              with_reducible rfl
            try simp only [List.getElem_toArray, List.getElem_cons_succ, List.getElem_cons_zero, Act.put, List.setIfInBounds_toArray, List.set_cons_zero, List.set_cons_succ]
            refine wpAnyH_take (i := 3) (oi := _) (v := ?_) rfl (by kernel_rfl) (by kernel_rfl) (by kernel_rfl) (fun _ _ _ h => h) (Or.inl ⟨by kernel_rfl, ?_⟩) (by assumption) ?_
            rotate_left
            · intro w hSw
              clear hSw
              go_simp
              with_reducible rfl
            try simp only [List.getElem_toArray, List.getElem_cons_succ, List.getElem_cons_zero, Act.put, List.setIfInBounds_toArray, List.set_cons_zero, List.set_cons_succ]
            refine wpAnyH_take (i := 4) (oi := _) (v := ?_) rfl (by kernel_rfl) (by kernel_rfl) (by kernel_rfl) (fun _ _ _ h => h) (Or.inl ⟨by kernel_rfl, ?_⟩) (by assumption) ?_
            rotate_left
            · intro w hSw
              clear hSw
              go_simp
              with_reducible rfl
            try simp only [List.getElem_toArray, List.getElem_cons_succ, List.getElem_cons_zero, Act.put, List.setIfInBounds_toArray, List.set_cons_zero, List.set_cons_succ]
            refine wpAnyH_take (i := 5) (oi := _) (v := ?_) rfl (by kernel_rfl) (by kernel_rfl) (by kernel_rfl) (fun _ _ _ h => h) (Or.inl ⟨by kernel_rfl, ?_⟩) (by assumption) ?_
            rotate_left
            · intro w hSw
              obtain ⟨hq0, hq1, hq2⟩ := hSw
              go_simp
              with_reducible rfl
            try simp only [List.getElem_toArray, List.getElem_cons_succ, List.getElem_cons_zero, Act.put, List.setIfInBounds_toArray, List.set_cons_zero, List.set_cons_succ]
            refine wpAnyH_take (i := 6) (oi := _) (v := ?_) rfl (by kernel_rfl) (by kernel_rfl) (by kernel_rfl) (fun _ _ _ h => h) (Or.inl ⟨by kernel_rfl, ?_⟩) (by assumption) ?_
            rotate_left
            · intro w hSw
              clear hSw
              go_simp
              with_reducible rfl
            try simp only [List.getElem_toArray, List.getElem_cons_succ, List.getElem_cons_zero, Act.put, List.setIfInBounds_toArray, List.set_cons_zero, List.set_cons_succ]
            refine wpAnyH_ready (rs := [2]) (by kernel_rfl) (by simp) ?_
            refine AllReadyH.cons (o := _) rfl (fun K_ hK => ?_) AllReadyH.nil
            go_simp
            have cs := K.cuts q S x s g _ P5.al.rep sm.out HK.out
            rw [hhas] at cs
            refine cs.mono ?_; rintro e w6 ⟨rfl, S6, R6, f6, x6⟩
            have P6 := P5.one R6 f6 x6
            have H6 := H5.by x6 nS7
            clear P5 H5 R6 f6 x6 cs
            show K_ _ _
            refine hK.out _ _ ⟨H6.c0, H6.c1, by rw [← hdv]; exact P6.ar.at_ _ KR.out.1⟩ (fun hH1 => ?_)
            clear hK K_ hHeld
            have hHeld := hH1
            clear hH1
            try simp only [List.getElem_toArray, List.getElem_cons_succ, List.getElem_cons_zero, Act.put, List.setIfInBounds_toArray, List.set_cons_zero, List.set_cons_succ]
            refine wpAnyH_take (i := 7) (oi := _) (v := ?_) rfl (by kernel_rfl) (by kernel_rfl) (by kernel_rfl) (fun _ _ _ h => h) (Or.inl ⟨by kernel_rfl, ?_⟩) (by assumption) ?_
            rotate_left
            · intro w hSw
              clear hSw
              go_simp
              with_reducible rfl
            try simp only [List.getElem_toArray, List.getElem_cons_succ, List.getElem_cons_zero, Act.put, List.setIfInBounds_toArray, List.set_cons_zero, List.set_cons_succ]
            refine wpAnyH_done (by kernel_rfl) (NoPanic.normal ?_) _
            clear hHeld H6
            have c := P6.ar.at_ _ KR.out.1
            have fz := P6.ar.frz _ KR.out.1
            have PE := Lib.hid ((P6.set k KR.out.1 (-1)).congr (f' := dueK (x.cutT s g).l) (fun j _ => by rw [OC.out.2.2 j, KR.out.2.1]))
            clear P6
            go_wp2
            go_meet
            exact ⟨x.cutT s g, S6, by rw [OC.out.2.1], Nat.le_trans (Wh.cut_len _ _ _) (Nat.le_succ_of_le HX.out), OC.out.1, PE.out⟩
          · as_aux_lemma =>
            have P2 := PP.out
            clear PP HH
            obtain ⟨nx, hnx⟩ : ∃ n_ : Int, n_ = (m : Int) := ⟨_, rfl⟩
            have HMT : x.mayT nx := by
              have h1 := MT.out.1
              have h2 := MT.out.2
              show (x.last : Int) ≤ nx ∧ nx ≤ Wh.max
              unfold Wh.max
              omega
            rw [← hnx]
            have HNX := Lib.hid hnx
            clear hnx
            obtain ⟨eE, o1, o2, o3, o4, o5, o6, o7⟩ := ON.out.turn HMT
            have t1 := K.turns q S x nx w7 P2.al.rep sm.out
            rw [eE] at t1
            have hL : Hid ((x.turnL nx).length ≤ 1000) := by
              refine Nat.le_trans ?_ sm.out
              unfold Wh.turnL
              rw [if_pos HMT]
              exact List.length_filter_le _ _
            have HT := Lib.hid (Wh.turn_len x nx)
            obtain ⟨xt, hxt⟩ : ∃ x_, x_ = x.turnT nx := ⟨_, rfl⟩
            obtain ⟨L, hLL⟩ : ∃ l_, l_ = x.turnL nx := ⟨_, rfl⟩
            rw [← hxt] at t1 o1 o2 o6 o7 HT
            rw [← hLL] at t1 o3 o4 o5 o6 hL
            have OT := Lib.hid (And.intro o1 (And.intro o2 (And.intro o6 o7)))
            have OL := Lib.hid (And.intro o3 (And.intro o4 o5))
            clear eE o1 o2 o3 o4 o5 o6 o7 hxt hLL HMT
            go_wp2_with fail
            refine t1.mono ?_; rintro e w6 ⟨a6, c6, S6, rfl, R6, f6, x6, sl6, ne6⟩
            have NB : Hid (∀ b off, a6 = some ⟨b, off, none⟩ → ¬ b = gd) := fun b off e hb => absurd (hb ▸ P2.ar.lt) (Nat.not_lt_of_le (ne6 b off e).2.1)
            have P6 := P2.one R6 f6 x6
            clear P2 R6 f6 x6 ne6 t1
            obtain ⟨nL, hnL⟩ : ∃ n_, n_ = L.length := ⟨_, rfl⟩
            rw [← hnL]
            rw [← hnL] at hL
            have HLEN := Lib.hid hnL
            clear hnL
            have SL := Lib.hid sl6
            clear sl6
            go_upto_region 33 with fail
            go_loopw [18, 19] (fun s18 sj wr => ∃ j : Nat, j ≤ nL ∧ sj = .int .i64 (j : Int) ∧ s18 = .int .i64 (bef L j) ∧ Below w6.heap.size w6 wr) (fun _ sj _ => nL - (intOf sj).toNat)
            case atStart => exact ⟨0, Nat.zero_le _, rfl, rfl, Below.refl _ _⟩
            case round =>
              obtain ⟨j, hj, rfl, rfl, bb⟩ := hrel
              have EJ := Lib.hid (step_15 (j := j) (Nat.lt_of_le_of_lt (Nat.le_trans hj hL.out) (by decide)))
              by_cases hlt : j < nL
              · have HJ := Lib.hid hlt
                obtain ⟨t1, jj1, jj0⟩ := ix15 hlt
                have hlt2 : j < (L.map Ti.h).length := by rw [List.length_map, ← HLEN.out]; exact hlt
                obtain ⟨rb, ro, rfl, hrb, x0, x1⟩ := handle_at (SL.out.on bb).row hlt2
                have hm := mem15 (L := L) (j := j) (by rw [← HLEN.out]; exact hlt)
                rw [map_at15 (by rw [← HLEN.out]; exact hlt)] at x0 x1
                obtain ⟨r1, r2, r3, r4, r5, rk, r6, r7, r8⟩ := t_facts (OL.out.1.rng _ hm)
                obtain ⟨d1, d2⟩ := OL.out.2.2 _ hm
                have BJ := Lib.hid (bef_step (L := L) (j := j) OL.out.1.rng OL.out.2.1 (by rw [← HLEN.out]; exact hlt))
                have BS := Lib.hid (bef_at L j)
                obtain ⟨ti, hti⟩ : ∃ t_, t_ = L.getD j ti0 := ⟨_, rfl⟩
                rw [← hti] at x0 x1 r1 r2 r3 r4 r5 rk r6 r7 r8 d1 d2 hm BJ BS
                clear hti hm
                have PR := P6.on bb
                have y0 := PR.ar.at_ _ rk
                rw [d1] at y0
                have hgd := PR.ar.lt
                have z0 := fun kb (hk : kb < 18) => PR.ar.at_ kb hk
                clear PR
                obtain ⟨dz, hdz⟩ : ∃ d_ : Int, d_ = (ti.d : Int) := ⟨_, rfl⟩
                rw [← hdz] at y0 d2
                have d0 : decide (dz < 0) = false := decide_eq_false (by omega)
                have dn : decide (nx < dz) = false := decide_eq_false (by omega)
                obtain ⟨kt, hkt⟩ : ∃ k_, k_ = kOf ti := ⟨_, rfl⟩
                rw [← hkt] at y0 r4 r5 rk BS
                obtain ⟨i1, i2, i3⟩ := ix18 rk
                obtain ⟨ts, tg, td⟩ := ti
                simp only [Ti.h] at x0 x1 r1 r2 r3 r4 r5 r6 r7 r8
                have X0 : ∀ u : Later wr.heap.size wr, u.u.cell? ⟨rb, ro + j * 2, none⟩ = some (.int .i64 ts) := fun u => u.block hrb x0
                have X1 : ∀ u : Later wr.heap.size wr, u.u.cell? ⟨rb, ro + j * 2 + 1, none⟩ = some (.int .u32 tg) := fun u => u.block hrb x1
                have HRB := Lib.hid hrb
                have XX := Lib.hid (And.intro x0 x1)
                have YY := Lib.hid (And.intro y0 hgd)
                have ZZ := Lib.hid z0
                have DD := Lib.hid (And.intro d0 dn)
                have RR := Lib.hid (And.intro r6 (And.intro r7 r8))
                have HDZ := Lib.hid hdz
                have HKT := Lib.hid hkt
                clear x0 x1 y0 z0 hgd d0 dn d1 d2 hdz hkt hrb hj hlt hlt2 r6 r7 r8
                go_upto_region 35 with fail
                refine region_later (B := wr.heap.size) (by kernel_rfl) (by kernel_rfl) ?_
                repeat (go_big_quiet_step (fail))
                refine later_end fun w11 x11 => ?_
                have x0 := (x11.cell (p := ⟨rb, ro + j * 2, none⟩) HRB.out).trans XX.out.1
                have x1 := (x11.cell (p := ⟨rb, ro + j * 2 + 1, none⟩) HRB.out).trans XX.out.2
                have y0 := (x11.cell (p := ⟨gd, kt, none⟩) YY.out.2).trans YY.out.1
                obtain ⟨d0, dn⟩ := DD.out
                obtain ⟨r6, r7, r8⟩ := RR.out
                have b11 := Lib.hid (bb.trans (x11.mono bb.size))
                have hg11 := Nat.lt_of_lt_of_le YY.out.2 x11.size
                have z11 : ∀ kb, kb < 18 → w11.cell? ⟨gd, kb, none⟩ = some (.int .i64 (dueK x.l kb)) := fun kb hk => (x11.cell (p := ⟨gd, kb, none⟩) YY.out.2).trans (ZZ.out kb hk)
                have ZZ11 := Lib.hid z11
                clear X0 X1 bb z11
                go_upto_region 38 with fail
                rcases BJ.out with eb | ⟨ub, hub, eb, du1, du2⟩
                · rw [eb]
                  clear x0 x1 y0
                  refine region_later (B := w11.heap.size) (by kernel_rfl) (by kernel_rfl) ?_
                  repeat (go_big_quiet_step (fail))
                  refine later_end fun w12 x12 => ?_
                  have b12 := b11.out.trans (x12.mono b11.out.size)
                  clear x12
                  go_wp2
                  go_roundw
                  case rel => exact ⟨j + 1, HJ.out, by simp [EJ.out], by rw [BS.out], b12⟩
                  case measure => first | exact step_meas15 EJ.out (step_less15 HJ.out) | (simp [EJ.out]; exact step_less15 HJ.out) | exact step_less15 HJ.out
                · rw [eb]
                  have rub := (kOf_lt (OL.out.1.rng _ hub)).1
                  have v0 := ZZ11.out _ rub
                  rw [(OL.out.2.2 _ hub).1] at v0
                  obtain ⟨du, hdu⟩ : ∃ d_ : Int, d_ = (ub.d : Int) := ⟨_, rfl⟩
                  rw [← hdu] at v0
                  obtain ⟨ku, hku⟩ : ∃ k_, k_ = kOf ub := ⟨_, rfl⟩
                  rw [← hku] at v0 rub ⊢
                  obtain ⟨n1, n2, n3⟩ := ix18 rub
                  have g0 : decide ((0 : Int) ≤ (ku : Int)) = true := by simp
                  have g1 : decide (dz < du) = false := decide_eq_false (by rw [HDZ.out, hdu]; exact Int.not_lt.2 (Int.ofNat_le.2 du1))
                  have V0 : ∀ u : Later w11.heap.size w11, u.u.cell? ⟨gd, ku, none⟩ = some (.int .i64 du) := fun u => u.block hg11 v0
                  have Y0 : ∀ u : Later w11.heap.size w11, u.u.cell? ⟨gd, kt, none⟩ = some (.int .i64 dz) := fun u => u.block hg11 y0
                  have DK : Hid (du = dz → ku < kt) := by
                    intro hq
                    rw [hku, HKT.out]
                    exact du2 (by rw [hdu, HDZ.out] at hq; exact Int.ofNat.inj hq)
                  clear hku hdu du1 du2 hub eb
                  by_cases hq : du = dz
                  · have hkk_ : ku < kt := DK.out hq
                    have g2 : decide ((kt : Int) ≤ (ku : Int)) = false := decide_eq_false (by omega)
                    have g3 : decide (kt ≤ ku) = false := decide_eq_false (by omega)
                    have g4 : decide (dz < dz) = false := decide_eq_false (by omega)
                    subst hq
                    clear x0 x1 y0 v0 hkk_
                    refine region_later (B := w11.heap.size) (by kernel_rfl) (by kernel_rfl) ?_
                    repeat (go_big_quiet_step (fail))
                    refine later_end fun w12 x12 => ?_
                    have b12 := b11.out.trans (x12.mono b11.out.size)
                    clear x12 V0 Y0
                    go_wp2
                    go_roundw
                    case rel => exact ⟨j + 1, HJ.out, by simp [EJ.out], by rw [BS.out], b12⟩
                    case measure => first | exact step_meas15 EJ.out (step_less15 HJ.out) | (simp [EJ.out]; exact step_less15 HJ.out) | exact step_less15 HJ.out
                  · have g2 : (du == dz) = false := by simpa using hq
                    have g3 : decide (du = dz) = false := decide_eq_false hq
                    clear x0 x1 y0 v0 hq
                    refine region_later (B := w11.heap.size) (by kernel_rfl) (by kernel_rfl) ?_
                    repeat (go_big_quiet_step (fail))
                    refine later_end fun w12 x12 => ?_
                    have b12 := b11.out.trans (x12.mono b11.out.size)
                    clear x12 V0 Y0
                    go_wp2
                    go_roundw
                    case rel => exact ⟨j + 1, HJ.out, by simp [EJ.out], by rw [BS.out], b12⟩
                    case measure => first | exact step_meas15 EJ.out (step_less15 HJ.out) | (simp [EJ.out]; exact step_less15 HJ.out) | exact step_less15 HJ.out
              · have tj : decide ((j : Int) < (nL : Int)) = false := by simp; omega
                have tj2 : decide (j < nL) = false := by simp; omega
                have P7 := (P6.on bb).congr (f' := goneF x.l L 0) (fun i_ _ => gone_zero x.l L i_)
                have SL7 := SL.out.on bb
                clear P6 bb hj hlt EJ
                go_upto_region 42 with fail
                clear tj tj2
                go_loopw [21] (fun sj wr => ∃ j : Nat, j ≤ nL ∧ sj = .int .i64 (j : Int) ∧ OnM K w wr S6 q xt gd (goneF x.l L j) ∧ eltH.Sl wr a6 c6 (L.map Ti.h)) (fun sj _ => nL - (intOf sj).toNat)
                case atStart => exact ⟨0, Nat.zero_le _, rfl, P7, SL7⟩
                case round =>
                  obtain ⟨j, hj, rfl, P8, SL8⟩ := hrel
                  clear P7 SL7
                  have EJ := Lib.hid (step_15 (j := j) (Nat.lt_of_le_of_lt (Nat.le_trans hj hL.out) (by decide)))
                  by_cases hlt : j < nL
                  · have HJ := Lib.hid hlt
                    obtain ⟨t1, jj1, jj0⟩ := ix15 hlt
                    have hlt2 : j < (L.map Ti.h).length := by rw [List.length_map, ← HLEN.out]; exact hlt
                    obtain ⟨rb, ro, rfl, hrb, x0, x1⟩ := handle_at SL8.row hlt2
                    have hm := mem15 (L := L) (j := j) (by rw [← HLEN.out]; exact hlt)
                    rw [map_at15 (by rw [← HLEN.out]; exact hlt)] at x0 x1
                    obtain ⟨r1, r2, r3, r4, r5, rk, r6, r7, r8⟩ := t_facts (OL.out.1.rng _ hm)
                    have GS := Lib.hid (gone_step x.l (L := L) (j := j) (by rw [← HLEN.out]; exact hlt))
                    obtain ⟨ti, hti⟩ : ∃ t_, t_ = L.getD j ti0 := ⟨_, rfl⟩
                    rw [← hti] at x0 x1 r1 r2 r3 r4 r5 rk GS
                    clear hti hm r6 r7 r8
                    obtain ⟨kt, hkt⟩ : ∃ k_, k_ = kOf ti := ⟨_, rfl⟩
                    rw [← hkt] at r4 r5 rk GS
                    clear hkt
                    obtain ⟨i1, i2, i3⟩ := ix18 rk
                    have RK := Lib.hid rk
                    obtain ⟨ts, tg, td⟩ := ti
                    simp only [Ti.h] at x0 x1 r1 r2 r3 r4 r5
                    have X0 : ∀ u : Later wr.heap.size wr, u.u.cell? ⟨rb, ro + j * 2, none⟩ = some (.int .i64 ts) := fun u => u.block hrb x0
                    have X1 : ∀ u : Later wr.heap.size wr, u.u.cell? ⟨rb, ro + j * 2 + 1, none⟩ = some (.int .u32 tg) := fun u => u.block hrb x1
                    clear x0 x1 hrb hj hlt hlt2 rk
                    go_upto_region 44 with fail
                    refine region_lead (B := wr.heap.size) 14 1 (by kernel_rfl) (by kernel_rfl) (by kernel_rfl) (by kernel_rfl) ?_
                    simp only [List.take_succ_cons, List.take_zero]
                    repeat (go_big_quiet_step (fail))
                    refine lead_end (by kernel_rfl) (by kernel_rfl) rfl fun w12 x12 K_ hK => ?_
                    have P12 := P8.on x12
                    have SL12 := SL8.on x12
                    have f12 := P12.ar.frz _ RK.out
                    have c12 := P12.ar.at_ _ RK.out
                    have PE := Lib.hid ((P12.set kt RK.out (-1)).congr (fun i_ _ => GS.out i_))
                    have SE := Lib.hid (SL12.by (OnM.wrote w12 gd kt (.int .i64 (-1))) NB.out)
                    clear P8 x12 P12 X0 X1 SL8 SL12
                    go_simp
                    refine hK.out _ _ ?_
                    clear hK K_ c12 f12
                    go_wp2
                    go_roundw
                    case rel => exact ⟨j + 1, HJ.out, by simp [EJ.out], PE.out, SE.out⟩
                    case measure => first | exact step_meas15 EJ.out (step_less15 HJ.out) | (simp [EJ.out]; exact step_less15 HJ.out) | exact step_less15 HJ.out
                  · have tj : decide ((j : Int) < (nL : Int)) = false := by simp; omega
                    have tj2 : decide (j < nL) = false := by simp; omega
                    have hjn : j = L.length := by rw [← HLEN.out]; omega
                    have P9 := P8.congr (f' := dueK xt.l) (fun i_ _ => by rw [OT.out.2.2.1 i_, hjn]; exact gone_all x.l L i_)
                    clear P8 SL8 hjn hj hlt EJ
                    go_upto_region 46 with fail
                    clear tj tj2
                    go_loopw [22] (fun sj wr => ∃ j : Nat, j ≤ 18 ∧ sj = .int .i64 (j : Int) ∧ OnM K w wr S6 q xt gd (dueK xt.l)) (fun sj _ => 18 - (intOf sj).toNat)
                    case atStart => exact ⟨0, Nat.zero_le _, rfl, P9⟩
                    case round =>
                      obtain ⟨j, hj, rfl, P1⟩ := hrel
                      clear P9
                      have EJ := Lib.hid (step_15 (j := j) (Nat.lt_of_le_of_lt hj (by decide)))
                      by_cases hlt : j < 18
                      · have HJ := Lib.hid hlt
                        obtain ⟨i1, i2, i3⟩ := ix18 hlt
                        have c := P1.ar.at_ _ hlt
                        have PE := Lib.hid P1
                        have DJ := OT.out.2.2.2 j
                        obtain ⟨dv, hdv⟩ : ∃ d_, dueK xt.l j = d_ := ⟨_, rfl⟩
                        rw [hdv] at c DJ
                        clear P1 hj hlt hdv
                        by_cases hd : 0 ≤ dv
                        · have d0 : decide (0 ≤ dv) = true := decide_eq_true hd
                          have d1 : decide (dv ≤ nx) = false := decide_eq_false (by have := DJ hd; omega)
                          clear hd DJ
                          go_wp2
                          go_roundw
                          case rel => exact ⟨j + 1, HJ.out, by simp [EJ.out], PE.out⟩
                          case measure => first | exact step_meas15 EJ.out (step_less15 HJ.out) | (simp [EJ.out]; exact step_less15 HJ.out) | exact step_less15 HJ.out
                        · have d0 : decide (0 ≤ dv) = false := decide_eq_false hd
                          clear hd DJ
                          go_wp2
                          go_roundw
                          case rel => exact ⟨j + 1, HJ.out, by simp [EJ.out], PE.out⟩
                          case measure => first | exact step_meas15 EJ.out (step_less15 HJ.out) | (simp [EJ.out]; exact step_less15 HJ.out) | exact step_less15 HJ.out
                      · have tj : decide ((j : Int) < 18) = false := decide_eq_false (by omega)
                        have PE := Lib.hid P1
                        clear P1 hj hlt EJ
                        go_wp2
                        have hnx := HNX.out
                        subst hnx
                        go_meet
                        exact ⟨xt, S6, by rw [OT.out.2.1], Nat.le_trans HT.out (Nat.le_succ_of_le HX.out), OT.out.1, PE.out⟩
          · as_aux_lemma =>
            have P2 := PP.out
            clear PP HH
            obtain ⟨nx, hnx⟩ : ∃ n_ : Int, n_ = (m : Int) := ⟨_, rfl⟩
            have HMT : x.mayT nx := by
              have h1 := MT.out.1
              have h2 := MT.out.2
              show (x.last : Int) ≤ nx ∧ nx ≤ Wh.max
              unfold Wh.max
              omega
            rw [← hnx]
            have HNX := Lib.hid hnx
            clear hnx
            obtain ⟨eE, o1, o2, o3, o4, o5, o6, o7⟩ := ON.out.turn HMT
            have t1 := K.turns q S x nx w7 P2.al.rep sm.out
            rw [eE] at t1
            have hL : Hid ((x.turnL nx).length ≤ 1000) := by
              refine Nat.le_trans ?_ sm.out
              unfold Wh.turnL
              rw [if_pos HMT]
              exact List.length_filter_le _ _
            have HT := Lib.hid (Wh.turn_len x nx)
            obtain ⟨xt, hxt⟩ : ∃ x_, x_ = x.turnT nx := ⟨_, rfl⟩
            obtain ⟨L, hLL⟩ : ∃ l_, l_ = x.turnL nx := ⟨_, rfl⟩
            rw [← hxt] at t1 o1 o2 o6 o7 HT
            rw [← hLL] at t1 o3 o4 o5 o6 hL
            have OT := Lib.hid (And.intro o1 (And.intro o2 (And.intro o6 o7)))
            have OL := Lib.hid (And.intro o3 (And.intro o4 o5))
            clear eE o1 o2 o3 o4 o5 o6 o7 hxt hLL HMT
            go_wp2_with fail
            refine t1.mono ?_; rintro e w6 ⟨a6, c6, S6, rfl, R6, f6, x6, sl6, ne6⟩
            have NB : Hid (∀ b off, a6 = some ⟨b, off, none⟩ → ¬ b = gd) := fun b off e hb => absurd (hb ▸ P2.ar.lt) (Nat.not_lt_of_le (ne6 b off e).2.1)
            have P6 := P2.one R6 f6 x6
            clear P2 R6 f6 x6 ne6 t1
            obtain ⟨nL, hnL⟩ : ∃ n_, n_ = L.length := ⟨_, rfl⟩
            rw [← hnL]
            rw [← hnL] at hL
            have HLEN := Lib.hid hnL
            clear hnL
            have SL := Lib.hid sl6
            clear sl6
            go_upto_region 33 with fail
            go_loopw [18, 19] (fun s18 sj wr => ∃ j : Nat, j ≤ nL ∧ sj = .int .i64 (j : Int) ∧ s18 = .int .i64 (bef L j) ∧ Below w6.heap.size w6 wr) (fun _ sj _ => nL - (intOf sj).toNat)
            case atStart => exact ⟨0, Nat.zero_le _, rfl, rfl, Below.refl _ _⟩
            case round =>
              obtain ⟨j, hj, rfl, rfl, bb⟩ := hrel
              have EJ := Lib.hid (step_15 (j := j) (Nat.lt_of_le_of_lt (Nat.le_trans hj hL.out) (by decide)))
              by_cases hlt : j < nL
              · have HJ := Lib.hid hlt
                obtain ⟨t1, jj1, jj0⟩ := ix15 hlt
                have hlt2 : j < (L.map Ti.h).length := by rw [List.length_map, ← HLEN.out]; exact hlt
                obtain ⟨rb, ro, rfl, hrb, x0, x1⟩ := handle_at (SL.out.on bb).row hlt2
                have hm := mem15 (L := L) (j := j) (by rw [← HLEN.out]; exact hlt)
                rw [map_at15 (by rw [← HLEN.out]; exact hlt)] at x0 x1
                obtain ⟨r1, r2, r3, r4, r5, rk, r6, r7, r8⟩ := t_facts (OL.out.1.rng _ hm)
                obtain ⟨d1, d2⟩ := OL.out.2.2 _ hm
                have BJ := Lib.hid (bef_step (L := L) (j := j) OL.out.1.rng OL.out.2.1 (by rw [← HLEN.out]; exact hlt))
                have BS := Lib.hid (bef_at L j)
                obtain ⟨ti, hti⟩ : ∃ t_, t_ = L.getD j ti0 := ⟨_, rfl⟩
                rw [← hti] at x0 x1 r1 r2 r3 r4 r5 rk r6 r7 r8 d1 d2 hm BJ BS
                clear hti hm
                have PR := P6.on bb
                have y0 := PR.ar.at_ _ rk
                rw [d1] at y0
                have hgd := PR.ar.lt
                have z0 := fun kb (hk : kb < 18) => PR.ar.at_ kb hk
                clear PR
                obtain ⟨dz, hdz⟩ : ∃ d_ : Int, d_ = (ti.d : Int) := ⟨_, rfl⟩
                rw [← hdz] at y0 d2
                have d0 : decide (dz < 0) = false := decide_eq_false (by omega)
                have dn : decide (nx < dz) = false := decide_eq_false (by omega)
                obtain ⟨kt, hkt⟩ : ∃ k_, k_ = kOf ti := ⟨_, rfl⟩
                rw [← hkt] at y0 r4 r5 rk BS
                obtain ⟨i1, i2, i3⟩ := ix18 rk
                obtain ⟨ts, tg, td⟩ := ti
                simp only [Ti.h] at x0 x1 r1 r2 r3 r4 r5 r6 r7 r8
                have X0 : ∀ u : Later wr.heap.size wr, u.u.cell? ⟨rb, ro + j * 2, none⟩ = some (.int .i64 ts) := fun u => u.block hrb x0
                have X1 : ∀ u : Later wr.heap.size wr, u.u.cell? ⟨rb, ro + j * 2 + 1, none⟩ = some (.int .u32 tg) := fun u => u.block hrb x1
                have HRB := Lib.hid hrb
                have XX := Lib.hid (And.intro x0 x1)
                have YY := Lib.hid (And.intro y0 hgd)
                have ZZ := Lib.hid z0
                have DD := Lib.hid (And.intro d0 dn)
                have RR := Lib.hid (And.intro r6 (And.intro r7 r8))
                have HDZ := Lib.hid hdz
                have HKT := Lib.hid hkt
                clear x0 x1 y0 z0 hgd d0 dn d1 d2 hdz hkt hrb hj hlt hlt2 r6 r7 r8
                go_upto_region 35 with fail
                refine region_later (B := wr.heap.size) (by kernel_rfl) (by kernel_rfl) ?_
                repeat (go_big_quiet_step (fail))
                refine later_end fun w11 x11 => ?_
                have x0 := (x11.cell (p := ⟨rb, ro + j * 2, none⟩) HRB.out).trans XX.out.1
                have x1 := (x11.cell (p := ⟨rb, ro + j * 2 + 1, none⟩) HRB.out).trans XX.out.2
                have y0 := (x11.cell (p := ⟨gd, kt, none⟩) YY.out.2).trans YY.out.1
                obtain ⟨d0, dn⟩ := DD.out
                obtain ⟨r6, r7, r8⟩ := RR.out
                have b11 := Lib.hid (bb.trans (x11.mono bb.size))
                have hg11 := Nat.lt_of_lt_of_le YY.out.2 x11.size
                have z11 : ∀ kb, kb < 18 → w11.cell? ⟨gd, kb, none⟩ = some (.int .i64 (dueK x.l kb)) := fun kb hk => (x11.cell (p := ⟨gd, kb, none⟩) YY.out.2).trans (ZZ.out kb hk)
                have ZZ11 := Lib.hid z11
                clear X0 X1 bb z11
                go_upto_region 38 with fail
                rcases BJ.out with eb | ⟨ub, hub, eb, du1, du2⟩
                · rw [eb]
                  clear x0 x1 y0
                  refine region_later (B := w11.heap.size) (by kernel_rfl) (by kernel_rfl) ?_
                  repeat (go_big_quiet_step (fail))
                  refine later_end fun w12 x12 => ?_
                  have b12 := b11.out.trans (x12.mono b11.out.size)
                  clear x12
                  go_wp2
                  go_roundw
                  case rel => exact ⟨j + 1, HJ.out, by simp [EJ.out], by rw [BS.out], b12⟩
                  case measure => first | exact step_meas15 EJ.out (step_less15 HJ.out) | (simp [EJ.out]; exact step_less15 HJ.out) | exact step_less15 HJ.out
                · rw [eb]
                  have rub := (kOf_lt (OL.out.1.rng _ hub)).1
                  have v0 := ZZ11.out _ rub
                  rw [(OL.out.2.2 _ hub).1] at v0
                  obtain ⟨du, hdu⟩ : ∃ d_ : Int, d_ = (ub.d : Int) := ⟨_, rfl⟩
                  rw [← hdu] at v0
                  obtain ⟨ku, hku⟩ : ∃ k_, k_ = kOf ub := ⟨_, rfl⟩
                  rw [← hku] at v0 rub ⊢
                  obtain ⟨n1, n2, n3⟩ := ix18 rub
                  have g0 : decide ((0 : Int) ≤ (ku : Int)) = true := by simp
                  have g1 : decide (dz < du) = false := decide_eq_false (by rw [HDZ.out, hdu]; exact Int.not_lt.2 (Int.ofNat_le.2 du1))
                  have V0 : ∀ u : Later w11.heap.size w11, u.u.cell? ⟨gd, ku, none⟩ = some (.int .i64 du) := fun u => u.block hg11 v0
                  have Y0 : ∀ u : Later w11.heap.size w11, u.u.cell? ⟨gd, kt, none⟩ = some (.int .i64 dz) := fun u => u.block hg11 y0
                  have DK : Hid (du = dz → ku < kt) := by
                    intro hq
                    rw [hku, HKT.out]
                    exact du2 (by rw [hdu, HDZ.out] at hq; exact Int.ofNat.inj hq)
                  clear hku hdu du1 du2 hub eb
                  by_cases hq : du = dz
                  · have hkk_ : ku < kt := DK.out hq
                    have g2 : decide ((kt : Int) ≤ (ku : Int)) = false := decide_eq_false (by omega)
                    have g3 : decide (kt ≤ ku) = false := decide_eq_false (by omega)
                    have g4 : decide (dz < dz) = false := decide_eq_false (by omega)
                    subst hq
                    clear x0 x1 y0 v0 hkk_
                    refine region_later (B := w11.heap.size) (by kernel_rfl) (by kernel_rfl) ?_
                    repeat (go_big_quiet_step (fail))
                    refine later_end fun w12 x12 => ?_
                    have b12 := b11.out.trans (x12.mono b11.out.size)
                    clear x12 V0 Y0
                    go_wp2
                    go_roundw
                    case rel => exact ⟨j + 1, HJ.out, by simp [EJ.out], by rw [BS.out], b12⟩
                    case measure => first | exact step_meas15 EJ.out (step_less15 HJ.out) | (simp [EJ.out]; exact step_less15 HJ.out) | exact step_less15 HJ.out
                  · have g2 : (du == dz) = false := by simpa using hq
                    have g3 : decide (du = dz) = false := decide_eq_false hq
                    clear x0 x1 y0 v0 hq
                    refine region_later (B := w11.heap.size) (by kernel_rfl) (by kernel_rfl) ?_
                    repeat (go_big_quiet_step (fail))
                    refine later_end fun w12 x12 => ?_
                    have b12 := b11.out.trans (x12.mono b11.out.size)
                    clear x12 V0 Y0
                    go_wp2
                    go_roundw
                    case rel => exact ⟨j + 1, HJ.out, by simp [EJ.out], by rw [BS.out], b12⟩
                    case measure => first | exact step_meas15 EJ.out (step_less15 HJ.out) | (simp [EJ.out]; exact step_less15 HJ.out) | exact step_less15 HJ.out
              · have tj : decide ((j : Int) < (nL : Int)) = false := by simp; omega
                have tj2 : decide (j < nL) = false := by simp; omega
                have P7 := (P6.on bb).congr (f' := goneF x.l L 0) (fun i_ _ => gone_zero x.l L i_)
                have SL7 := SL.out.on bb
                clear P6 bb hj hlt EJ
                go_upto_region 42 with fail
                clear tj tj2
                go_loopw [21] (fun sj wr => ∃ j : Nat, j ≤ nL ∧ sj = .int .i64 (j : Int) ∧ OnM K w wr S6 q xt gd (goneF x.l L j) ∧ eltH.Sl wr a6 c6 (L.map Ti.h)) (fun sj _ => nL - (intOf sj).toNat)
                case atStart => exact ⟨0, Nat.zero_le _, rfl, P7, SL7⟩
                case round =>
                  obtain ⟨j, hj, rfl, P8, SL8⟩ := hrel
                  clear P7 SL7
                  have EJ := Lib.hid (step_15 (j := j) (Nat.lt_of_le_of_lt (Nat.le_trans hj hL.out) (by decide)))
                  by_cases hlt : j < nL
                  · have HJ := Lib.hid hlt
                    obtain ⟨t1, jj1, jj0⟩ := ix15 hlt
                    have hlt2 : j < (L.map Ti.h).length := by rw [List.length_map, ← HLEN.out]; exact hlt
                    obtain ⟨rb, ro, rfl, hrb, x0, x1⟩ := handle_at SL8.row hlt2
                    have hm := mem15 (L := L) (j := j) (by rw [← HLEN.out]; exact hlt)
                    rw [map_at15 (by rw [← HLEN.out]; exact hlt)] at x0 x1
                    obtain ⟨r1, r2, r3, r4, r5, rk, r6, r7, r8⟩ := t_facts (OL.out.1.rng _ hm)
                    have GS := Lib.hid (gone_step x.l (L := L) (j := j) (by rw [← HLEN.out]; exact hlt))
                    obtain ⟨ti, hti⟩ : ∃ t_, t_ = L.getD j ti0 := ⟨_, rfl⟩
                    rw [← hti] at x0 x1 r1 r2 r3 r4 r5 rk GS
                    clear hti hm r6 r7 r8
                    obtain ⟨kt, hkt⟩ : ∃ k_, k_ = kOf ti := ⟨_, rfl⟩
                    rw [← hkt] at r4 r5 rk GS
                    clear hkt
                    obtain ⟨i1, i2, i3⟩ := ix18 rk
                    have RK := Lib.hid rk
                    obtain ⟨ts, tg, td⟩ := ti
                    simp only [Ti.h] at x0 x1 r1 r2 r3 r4 r5
                    have X0 : ∀ u : Later wr.heap.size wr, u.u.cell? ⟨rb, ro + j * 2, none⟩ = some (.int .i64 ts) := fun u => u.block hrb x0
                    have X1 : ∀ u : Later wr.heap.size wr, u.u.cell? ⟨rb, ro + j * 2 + 1, none⟩ = some (.int .u32 tg) := fun u => u.block hrb x1
                    clear x0 x1 hrb hj hlt hlt2 rk
                    go_upto_region 44 with fail
                    refine region_lead (B := wr.heap.size) 14 1 (by kernel_rfl) (by kernel_rfl) (by kernel_rfl) (by kernel_rfl) ?_
                    simp only [List.take_succ_cons, List.take_zero]
                    repeat (go_big_quiet_step (fail))
                    refine lead_end (by kernel_rfl) (by kernel_rfl) rfl fun w12 x12 K_ hK => ?_
                    have P12 := P8.on x12
                    have SL12 := SL8.on x12
                    have f12 := P12.ar.frz _ RK.out
                    have c12 := P12.ar.at_ _ RK.out
                    have PE := Lib.hid ((P12.set kt RK.out (-1)).congr (fun i_ _ => GS.out i_))
                    have SE := Lib.hid (SL12.by (OnM.wrote w12 gd kt (.int .i64 (-1))) NB.out)
                    clear P8 x12 P12 X0 X1 SL8 SL12
                    go_simp
                    refine hK.out _ _ ?_
                    clear hK K_ c12 f12
                    go_wp2
                    go_roundw
                    case rel => exact ⟨j + 1, HJ.out, by simp [EJ.out], PE.out, SE.out⟩
                    case measure => first | exact step_meas15 EJ.out (step_less15 HJ.out) | (simp [EJ.out]; exact step_less15 HJ.out) | exact step_less15 HJ.out
                  · have tj : decide ((j : Int) < (nL : Int)) = false := by simp; omega
                    have tj2 : decide (j < nL) = false := by simp; omega
                    have hjn : j = L.length := by rw [← HLEN.out]; omega
                    have P9 := P8.congr (f' := dueK xt.l) (fun i_ _ => by rw [OT.out.2.2.1 i_, hjn]; exact gone_all x.l L i_)
                    clear P8 SL8 hjn hj hlt EJ
                    go_upto_region 46 with fail
                    clear tj tj2
                    go_loopw [22] (fun sj wr => ∃ j : Nat, j ≤ 18 ∧ sj = .int .i64 (j : Int) ∧ OnM K w wr S6 q xt gd (dueK xt.l)) (fun sj _ => 18 - (intOf sj).toNat)
                    case atStart => exact ⟨0, Nat.zero_le _, rfl, P9⟩
                    case round =>
                      obtain ⟨j, hj, rfl, P1⟩ := hrel
                      clear P9
                      have EJ := Lib.hid (step_15 (j := j) (Nat.lt_of_le_of_lt hj (by decide)))
                      by_cases hlt : j < 18
                      · have HJ := Lib.hid hlt
                        obtain ⟨i1, i2, i3⟩ := ix18 hlt
                        have c := P1.ar.at_ _ hlt
                        have PE := Lib.hid P1
                        have DJ := OT.out.2.2.2 j
                        obtain ⟨dv, hdv⟩ : ∃ d_, dueK xt.l j = d_ := ⟨_, rfl⟩
                        rw [hdv] at c DJ
                        clear P1 hj hlt hdv
                        by_cases hd : 0 ≤ dv
                        · have d0 : decide (0 ≤ dv) = true := decide_eq_true hd
                          have d1 : decide (dv ≤ nx) = false := decide_eq_false (by have := DJ hd; omega)
                          clear hd DJ
                          go_wp2
                          go_roundw
                          case rel => exact ⟨j + 1, HJ.out, by simp [EJ.out], PE.out⟩
                          case measure => first | exact step_meas15 EJ.out (step_less15 HJ.out) | (simp [EJ.out]; exact step_less15 HJ.out) | exact step_less15 HJ.out
                        · have d0 : decide (0 ≤ dv) = false := decide_eq_false hd
                          clear hd DJ
                          go_wp2
                          go_roundw
                          case rel => exact ⟨j + 1, HJ.out, by simp [EJ.out], PE.out⟩
                          case measure => first | exact step_meas15 EJ.out (step_less15 HJ.out) | (simp [EJ.out]; exact step_less15 HJ.out) | exact step_less15 HJ.out
                      · have tj : decide ((j : Int) < 18) = false := decide_eq_false (by omega)
                        have PE := Lib.hid P1
                        clear P1 hj hlt EJ
                        go_wp2
                        have hnx := HNX.out
                        subst hnx
                        go_meet
                        exact ⟨xt, S6, by rw [OT.out.2.1], Nat.le_trans HT.out (Nat.le_succ_of_le HX.out), OT.out.1, PE.out⟩
        case rest =>
          obtain ⟨x2, S2, rfl, hx2, on2, P9⟩ := hcut
          clear PP HH
          have sm2 : x2.l.length ≤ 1000 := Nat.le_trans hx2 (Nat.le_trans (Nat.succ_le_of_lt HL.out) (Nat.le_trans H200.out (by decide)))
          have HX2 := Lib.hid hx2
          have ON2 := Lib.hid on2
          clear hx2 on2
          go_upto_region 53 with fail
          go_loopw [10, 23] (fun s10 sj wr => ∃ k : Nat, k ≤ 18 ∧ sj = .int .i64 (k : Int) ∧ s10 = .int .i64 ((cnt x2.l k : Nat) : Int) ∧ OnM K w wr S2 q x2 gd (dueK x2.l)) (fun _ sj _ => 18 - (intOf sj).toNat)
          case atStart => exact ⟨0, Nat.zero_le _, rfl, rfl, P9⟩
          case round =>
            obtain ⟨k2, hk2, rfl, rfl, P1⟩ := hrel
            clear P9
            have EK := Lib.hid (step_15 (j := k2) (Nat.lt_of_le_of_lt hk2 (by decide)))
            have CS := Lib.hid (cnt_step x2.l k2)
            have EC := step_15 (j := cnt x2.l k2) (Nat.lt_of_le_of_lt (Nat.le_trans (cnt_le _ _) hk2) (by decide))
            have CL : k2 = 18 → cnt x2.l k2 = x2.l.length := by rintro rfl; exact ON2.out.few.count
            generalize cnt x2.l k2 = ck at CS EC CL
            by_cases hk18 : k2 < 18
            · have HK2 := Lib.hid hk18
              obtain ⟨i1, i2, i3⟩ := ix18 hk18
              have c := P1.ar.at_ _ hk18
              have PE := Lib.hid P1
              clear P1 hk2 hk18
              obtain ⟨dv, hdv⟩ : ∃ d_, dueK x2.l k2 = d_ := ⟨_, rfl⟩
              rw [hdv] at c CS
              by_cases hd : 0 ≤ dv
              · have d0 : decide (0 ≤ dv) = true := decide_eq_true hd
                have CS2 := Lib.hid (CS.out.trans (by rw [if_pos hd]))
                clear hd
                go_wp2
                go_roundw
                case rel => exact ⟨k2 + 1, HK2.out, by simp [EK.out], by rw [CS2.out]; simp [EC], PE.out⟩
                case measure => first | exact step_meas15 EK.out (step_less15 HK2.out) | (simp [EK.out]; exact step_less15 HK2.out) | exact step_less15 HK2.out
              · have d0 : decide (0 ≤ dv) = false := decide_eq_false hd
                have CS2 := Lib.hid (CS.out.trans (by rw [if_neg hd]))
                clear hd
                go_wp2
                go_roundw
                case rel => exact ⟨k2 + 1, HK2.out, by simp [EK.out], by rw [CS2.out]; rfl, PE.out⟩
                case measure => first | exact step_meas15 EK.out (step_less15 HK2.out) | (simp [EK.out]; exact step_less15 HK2.out) | exact step_less15 HK2.out
            obtain rfl : k2 = 18 := Nat.le_antisymm hk2 (Nat.le_of_not_lt hk18)
            have t18 : decide ((18 : Int) < 18) = false := by decide
            obtain rfl := CL rfl
            clear CS EC EK hk2 hk18
            go_wp2_with fail
            refine Calls.mono (K.counts _ _ _ _ P1.al.rep sm2) ?_; rintro e w10 ⟨rfl, x10⟩
            have PE := Lib.hid (P1.on x10)
            clear P1 x10
            go_wp2
            go_roundw
            case rel => exact ⟨i + 1, x2, S2, _, HL.out, by simp [EW.out], rfl, rfl, HX2.out, ON2.out, PE.out⟩
            case measure => first | exact step_meas15 EW.out (step_less15 HL.out) | (simp [EW.out]; exact step_less15 HL.out) | exact step_less15 HL.out
      · obtain rfl : i = len := Nat.le_antisymm hi (Nat.le_of_not_lt hlt)
        have t1 : decide ((i : Int) < (i : Int)) = false := by simp
        have B3 := P1.al.below
        clear P1
        go_wp2_with fail
        refine (timed_ K _).mono ?_; rintro e w9 ⟨rfl, x9⟩
        have B9 := B3.trans (x9.mono B3.size)
        clear B3 x9
        go_wp2
        go_ret
        exact ⟨rfl, B9⟩
end Go.Proofs.Ytmephmjlajaopaa.WheelsOnce
