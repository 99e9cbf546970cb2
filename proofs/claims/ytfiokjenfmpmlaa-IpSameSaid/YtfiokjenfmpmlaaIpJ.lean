/- Contracts of package ip: bytes, seal, Put. -/
import Derived.Test.YtfiokjenfmpmlaaIpH
import Derived.Deep.RegionHeld3
namespace Go.Proofs.Ytfiokjenfmpmlaa
set_option linter.unusedVariables false
set_option linter.unusedSimpArgs false
open Go.ChangeShapes Go.WideShapes Go.ChangeAt Go.RowKit Go.PlainAid
/-- A box of 10 cells that is written whole. -/
theorem box10_ {W0 W : World} {b n : Nat} {v0 v1 v2 v3 v4 v5 v6 v7 v8 v9 : Value} {M : World → Prop} (h : ∀ j, j < 10 → (W.cell? ⟨b, j, none⟩).isSome = true) (hb : Below n W0 W) (hn : n ≤ b)
    (k : ∀ X : World, X.cell? ⟨b, 0, none⟩ = some v0 → X.cell? ⟨b, 1, none⟩ = some v1 → X.cell? ⟨b, 2, none⟩ = some v2 → X.cell? ⟨b, 3, none⟩ = some v3 → X.cell? ⟨b, 4, none⟩ = some v4 → X.cell? ⟨b, 5, none⟩ = some v5 → X.cell? ⟨b, 6, none⟩ = some v6 → X.cell? ⟨b, 7, none⟩ = some v7 → X.cell? ⟨b, 8, none⟩ = some v8 → X.cell? ⟨b, 9, none⟩ = some v9 → Below n W0 X → (∀ a : Addr, ¬ b = a.block → X.cell? a = W.cell? a) → X.heap.size = W.heap.size → M X) :
    M ((((((((((W.setCell ⟨b, 0, none⟩ v0).setCell ⟨b, 1, none⟩ v1).setCell ⟨b, 2, none⟩ v2).setCell ⟨b, 3, none⟩ v3).setCell ⟨b, 4, none⟩ v4).setCell ⟨b, 5, none⟩ v5).setCell ⟨b, 6, none⟩ v6).setCell ⟨b, 7, none⟩ v7).setCell ⟨b, 8, none⟩ v8).setCell ⟨b, 9, none⟩ v9) := by
  have c := World.cell?_setCells_in b [v0, v1, v2, v3, v4, v5, v6, v7, v8, v9] 0 W (by intro j hj; rw [Nat.zero_add]; exact h j hj)
  refine k _ (c 0 (by simp)) (c 1 (by simp)) (c 2 (by simp)) (c 3 (by simp)) (c 4 (by simp)) (c 5 (by simp)) (c 6 (by simp)) (c 7 (by simp)) (c 8 (by simp)) (c 9 (by simp)) ?_ ?_ (by simp)
  rotate_left
  · intro a ha
    rw [World.cell?_setCell_far _ _ _ _ ha, World.cell?_setCell_far _ _ _ _ ha, World.cell?_setCell_far _ _ _ _ ha, World.cell?_setCell_far _ _ _ _ ha, World.cell?_setCell_far _ _ _ _ ha, World.cell?_setCell_far _ _ _ _ ha, World.cell?_setCell_far _ _ _ _ ha, World.cell?_setCell_far _ _ _ _ ha, World.cell?_setCell_far _ _ _ _ ha, World.cell?_setCell_far _ _ _ _ ha]
  exact (((((((((hb.setCell hn _).setCell hn _).setCell hn _).setCell hn _).setCell hn _).setCell hn _).setCell hn _).setCell hn _).setCell hn _).setCell hn _
theorem box10_is {W w1 : World} {b : Nat} {v0 v1 v2 v3 v4 v5 v6 v7 v8 v9 : Value} {t : TypeId} (hb : b = W.heap.size) (hc : ∀ b o, b < (W.alloc (.cells #[v0, v1, v2, v3, v4, v5, v6, v7, v8, v9] t)).heap.size → w1.cell? ⟨b, o, none⟩ = (W.alloc (.cells #[v0, v1, v2, v3, v4, v5, v6, v7, v8, v9] t)).cell? ⟨b, o, none⟩) : ∀ j, j < 10 → (w1.cell? ⟨b, j, none⟩).isSome = true := by
  subst hb
  intro j hj
  rw [hc _ _ (by simp)]
  match j, hj with
  | 0, _ => simp [go_sem]
  | 1, _ => simp [go_sem]
  | 2, _ => simp [go_sem]
  | 3, _ => simp [go_sem]
  | 4, _ => simp [go_sem]
  | 5, _ => simp [go_sem]
  | 6, _ => simp [go_sem]
  | 7, _ => simp [go_sem]
  | 8, _ => simp [go_sem]
  | 9, _ => simp [go_sem]
theorem u16_h14 (x : Int) (h0 : 0 ≤ x) (h1 : x < 16384) : bits .or .u16 16384 x = 16384 + x := by
  rw [u16_or _ _ (by omega) (by omega) h0 (by omega)]
  have h := Nat.two_pow_add_eq_or_of_lt (i := 14) (b := x.toNat) (by omega) 1
  have e : (16384 : Int).toNat = 2 ^ 14 * 1 := by rfl
  rw [e, ← h]
  omega
attribute [local go_sem ↓] Go.wp_at_zero Go.wp_at_succ
set_option maxHeartbeats 4000000 in
set_option maxRecDepth 100000 in
theorem bytes_ (a id : Int) (fl : Bool) (tt pr sr ds : Int) (o : ByteArray) (size sum : Int) (w : World) (a0 : 0 ≤ a) (a1 : a ≤ 255) (i0 : 0 ≤ id) (i1 : id ≤ 65535) (t0 : 0 ≤ tt) (t1 : tt ≤ 255) (p0 : 0 ≤ pr) (p1 : pr ≤ 255)
    (s0 : 0 ≤ sr) (s1 : sr ≤ 4294967295) (d0 : 0 ≤ ds) (d1 : ds ≤ 4294967295) (ho : o.size ≤ 40) (z0 : 0 ≤ size) (z1 : size ≤ 65535) (m0 : 0 ≤ sum) (m1 : sum ≤ 65535) :
    Calls Try.prog 23 #[.agg #[.int .u8 a, .int .u16 id, .bool fl, .int .u8 tt, .int .u8 pr, .int .u32 sr, .int .u32 ds, .string o, .int .u16 size, .int .u16 sum]] w fun e w' => e = .returned (.string (hdrB a id fl tt pr sr ds o size sum)) ∧ Below w.heap.size w w' := by
  have ho2 : (o.size : Int) ≤ 40 := by omega
  obtain ⟨q, hq⟩ : ∃ q : Nat, q = 5 + o.size / 4 := ⟨_, rfl⟩
  have q1 : q ≤ 15 := by omega
  obtain ⟨z, hz⟩ : ∃ z : Int, z = 20 + (o.size : Int) := ⟨_, rfl⟩
  have x1 : 20 + (o.size : Int) = z := hz.symm
  have x2 : z / 4 = (q : Int) := by omega
  have x2' : z.tdiv 4 = (q : Int) := by rw [Int.tdiv_eq_ediv_of_nonneg (by omega)]; exact x2
  have w1' : IntKind.u16.wrap (q : Int) = (q : Int) := IntWalk.u16_in _ (by omega)
  have w2' : IntKind.u16.wrap ((q : Int) * 256) = (q : Int) * 256 := IntWalk.u16_in _ (by omega)
  have w3' : IntKind.u16.wrap a = a := IntWalk.u16_in _ (by omega)
  have w4' : IntKind.u16.wrap tt = tt := IntWalk.u16_in _ (by omega)
  have w5' : IntKind.u16.wrap (tt * 256) = tt * 256 := IntWalk.u16_in _ (by omega)
  have w6' : IntKind.u16.wrap pr = pr := IntWalk.u16_in _ (by omega)
  have zb0 : 0 ≤ z := by omega
  have zb1 : z ≤ 60 := by omega
  have x3 := u16_h14 ((q : Int) * 256) (by omega) (by omega)
  have x4 : 16384 + (q : Int) * 256 = (64 + (q : Int)) * 256 := by omega
  have x5 := u16_hl (64 + (q : Int)) a (by omega) (by omega) a0 a1
  have x6 := u16_hl tt pr t0 t1 p0 p1
  obtain ⟨fi, hfi⟩ : ∃ x : Int, x = if fl then 16384 else 0 := ⟨_, rfl⟩
  obtain ⟨f1, hf1⟩ : ∃ x : Int, x = (64 + (q : Int)) * 256 + a := ⟨_, rfl⟩
  obtain ⟨f5, hf5⟩ : ∃ x : Int, x = tt * 256 + pr := ⟨_, rfl⟩
  have HV : Hid (strOfNums (wordL [f1, size, id, fi, f5, sum]) ++ strOfNums (wordL [sr / 65536, sr % 65536]) ++ strOfNums (wordL [ds / 65536, ds % 65536]) ++ o = hdrB a id fl tt pr sr ds o size sum) := by
    show _ = _
    unfold hdrB
    rw [strOfNums_append, strOfNums_append]
    congr 2
    rw [hf1, hf5, hfi]
    simp only [hdrW, wordL, List.flatMap_cons, List.flatMap_nil, List.append_nil, List.cons_append, List.nil_append]
    rw [show (64 + (q : Int)) * 256 + a = 256 * (69 + (o.size : Int) / 4) + a by omega, Int.mul_comm tt 256]
  obtain ⟨u1, hu1⟩ : ∃ u, u = strOfNums (wordL [f1, size, id, fi, f5, sum]) := ⟨_, rfl⟩
  obtain ⟨u5, hu5⟩ : ∃ u, u = strOfNums (wordL [sr / 65536, sr % 65536]) := ⟨_, rfl⟩
  obtain ⟨u6, hu6⟩ : ∃ u, u = strOfNums (wordL [ds / 65536, ds % 65536]) := ⟨_, rfl⟩
  have zu1 : u1.size = 12 := by rw [hu1, size_W]; rfl
  have zu5 : u5.size = 4 := by rw [hu5, size_W]; rfl
  have zu6 : u6.size = 4 := by rw [hu6, size_W]; rfl
  have y1 : ¬ 9223372036854775807 < u1.size + u5.size := by omega
  have y2 : ¬ 9223372036854775807 < u1.size + u5.size + u6.size := by omega
  have y3 : ¬ 9223372036854775807 < u1.size + u5.size + u6.size + o.size := by omega
  rw [← hf1] at x5
  rw [← hf5] at x6
  have cw : ∀ u (b : Nat), b < u.heap.size → u.cell? ⟨b, 0, none⟩ = some (.int .u16 f1) → u.cell? ⟨b, 1, none⟩ = some (.int .u16 size) → u.cell? ⟨b, 2, none⟩ = some (.int .u16 id) → u.cell? ⟨b, 3, none⟩ = some (.int .u16 fi) → u.cell? ⟨b, 4, none⟩ = some (.int .u16 f5) → u.cell? ⟨b, 5, none⟩ = some (.int .u16 sum) → Calls Try.prog 38 #[.slice (some ⟨b, 0, none⟩) 6 6] u fun e w' => e = .returned (.string u1) ∧ Below u.heap.size u w' := by
    intro u b hb h0 h1 h2 h3 h4 h5
    rw [hu1]
    refine word_any _ 6 6 [f1, size, id, fi, f5, sum] u ⟨rfl, .inr ⟨b, 0, rfl, hb, ?_⟩⟩ (by omega) (by intro x hx; simp at hx; cases fl <;> simp at hfi <;> omega)
    intro t ht
    match t, ht with
    | 0, _ => simpa using h0
    | 1, _ => simpa using h1
    | 2, _ => simpa using h2
    | 3, _ => simpa using h3
    | 4, _ => simpa using h4
    | 5, _ => simpa using h5
  have c5 : ∀ u, Calls Try.prog 39 #[.int .u32 sr] u fun e w' => e = .returned (.string u5) ∧ Below u.heap.size u w' := by rw [hu5]; exact fun u => put32 sr u s0 s1
  have c6 : ∀ u, Calls Try.prog 39 #[.int .u32 ds] u fun e w' => e = .returned (.string u6) ∧ Below u.heap.size u w' := by rw [hu6]; exact fun u => put32 ds u d0 d1
  rw [← hu1, ← hu5, ← hu6] at HV
  clear hu1 hu5 hu6 hf1 hf5 hq hz zu1 zu5 zu6
  cases fl
  · simp only [Bool.false_eq_true, if_false] at hfi
    subst hfi
    go_enter Try.func23, Try.ntmps23
    go_wp2_with fail
    obtain ⟨w1, hw1⟩ : ∃ w1, w1 = w.alloc (.cells #[.int .u8 a, .int .u16 id, .bool false, .int .u8 tt, .int .u8 pr, .int .u32 sr, .int .u32 ds, .string o, .int .u16 size, .int .u16 sum] 54) := ⟨_, rfl⟩
    have k0 : w1.cell? ⟨w.heap.size, 0, none⟩ = some (.int .u8 a) := by rw [hw1]; simp [go_sem]
    have k1 : w1.cell? ⟨w.heap.size, 1, none⟩ = some (.int .u16 id) := by rw [hw1]; simp [go_sem]
    have k3 : w1.cell? ⟨w.heap.size, 3, none⟩ = some (.int .u8 tt) := by rw [hw1]; simp [go_sem]
    have k4 : w1.cell? ⟨w.heap.size, 4, none⟩ = some (.int .u8 pr) := by rw [hw1]; simp [go_sem]
    have k5 : w1.cell? ⟨w.heap.size, 5, none⟩ = some (.int .u32 sr) := by rw [hw1]; simp [go_sem]
    have k6 : w1.cell? ⟨w.heap.size, 6, none⟩ = some (.int .u32 ds) := by rw [hw1]; simp [go_sem]
    have k7 : w1.cell? ⟨w.heap.size, 7, none⟩ = some (.string o) := by rw [hw1]; simp [go_sem]
    have k8 : w1.cell? ⟨w.heap.size, 8, none⟩ = some (.int .u16 size) := by rw [hw1]; simp [go_sem]
    have k9 : w1.cell? ⟨w.heap.size, 9, none⟩ = some (.int .u16 sum) := by rw [hw1]; simp [go_sem]
    have s1 : w.heap.size < w1.heap.size := by rw [hw1]; simp
    have B1 : Below w.heap.size w w1 := by rw [hw1]; exact (Below.refl _ _).alloc (Nat.le_refl _) _
    rw [← hw1]
    clear hw1
    have MK := Lib.hid (show ∀ w', Below w1.heap.size w1 w' → w'.cell? ⟨w.heap.size, 0, none⟩ = some (.int .u8 a) ∧ w'.cell? ⟨w.heap.size, 1, none⟩ = some (.int .u16 id) ∧ w'.cell? ⟨w.heap.size, 3, none⟩ = some (.int .u8 tt) ∧ w'.cell? ⟨w.heap.size, 4, none⟩ = some (.int .u8 pr) ∧ w'.cell? ⟨w.heap.size, 5, none⟩ = some (.int .u32 sr) ∧ w'.cell? ⟨w.heap.size, 6, none⟩ = some (.int .u32 ds) ∧ w'.cell? ⟨w.heap.size, 7, none⟩ = some (.string o) ∧ w'.cell? ⟨w.heap.size, 8, none⟩ = some (.int .u16 size) ∧ w'.cell? ⟨w.heap.size, 9, none⟩ = some (.int .u16 sum) ∧ Below w1.heap.size w1 w' from
      fun w' h => ⟨(h.cell (p := ⟨_, 0, none⟩) s1).trans k0, (h.cell (p := ⟨_, 1, none⟩) s1).trans k1, (h.cell (p := ⟨_, 3, none⟩) s1).trans k3, (h.cell (p := ⟨_, 4, none⟩) s1).trans k4, (h.cell (p := ⟨_, 5, none⟩) s1).trans k5, (h.cell (p := ⟨_, 6, none⟩) s1).trans k6, (h.cell (p := ⟨_, 7, none⟩) s1).trans k7, (h.cell (p := ⟨_, 8, none⟩) s1).trans k8, (h.cell (p := ⟨_, 9, none⟩) s1).trans k9, h⟩)
    clear k0 k1 k3 k4 k5 k6 k7 k8 k9
    go_region_held3 (fun w' => w'.cell? ⟨w.heap.size, 0, none⟩ = some (.int .u8 a) ∧ w'.cell? ⟨w.heap.size, 1, none⟩ = some (.int .u16 id) ∧ w'.cell? ⟨w.heap.size, 3, none⟩ = some (.int .u8 tt) ∧ w'.cell? ⟨w.heap.size, 4, none⟩ = some (.int .u8 pr) ∧ w'.cell? ⟨w.heap.size, 5, none⟩ = some (.int .u32 sr) ∧ w'.cell? ⟨w.heap.size, 6, none⟩ = some (.int .u32 ds) ∧ w'.cell? ⟨w.heap.size, 7, none⟩ = some (.string o) ∧ w'.cell? ⟨w.heap.size, 8, none⟩ = some (.int .u16 size) ∧ w'.cell? ⟨w.heap.size, 9, none⟩ = some (.int .u16 sum) ∧ Below w1.heap.size w1 w')
      ((go_split_ands
        refine MK.out _ ?_
        repeat
          first
            | assumption
            | exact Below.refl _ _
            | refine Below.drew ?_
            | refine Below.alloc ?_ ?_ _
            | (refine Below.trans ?_ (hbw.mono ?_))
            | (refine Below.size (B := w1.heap.size) ?_
               assumption)
            | focus (simp; done)
            | focus (simp; omega)))
      ((first
        | (go_at_call 38
           refine (cw _ _ ?_ ?_ ?_ ?_ ?_ ?_ ?_).mono ?_
           · simp
           · simp [go_sem]
           · simp [go_sem]
           · simp [go_sem]
           · simp [go_sem]
           · simp [go_sem]
           · simp [go_sem]
           rintro e w2 ⟨rfl, hbw⟩)
        | (go_at_call_of 39 sr
           refine (c5 _).mono ?_
           rintro e w2 ⟨rfl, hbw⟩)
        | (go_at_call_of 39 ds
           refine (c6 _).mono ?_
           rintro e w2 ⟨rfl, hbw⟩)))
    rename_i HH
    have b2 := HH.2.2.2.2.2.2.2.2.2
    clear MK cw c5 c6 HH
    go_wp2
    go_ret
    rw [← HV.out]
    exact ⟨rfl, B1.trans (b2.mono (by omega))⟩
  · simp only [if_true] at hfi
    subst hfi
    go_enter Try.func23, Try.ntmps23
    go_wp2_with fail
    obtain ⟨w1, hw1⟩ : ∃ w1, w1 = w.alloc (.cells #[.int .u8 a, .int .u16 id, .bool true, .int .u8 tt, .int .u8 pr, .int .u32 sr, .int .u32 ds, .string o, .int .u16 size, .int .u16 sum] 54) := ⟨_, rfl⟩
    have k0 : w1.cell? ⟨w.heap.size, 0, none⟩ = some (.int .u8 a) := by rw [hw1]; simp [go_sem]
    have k1 : w1.cell? ⟨w.heap.size, 1, none⟩ = some (.int .u16 id) := by rw [hw1]; simp [go_sem]
    have k3 : w1.cell? ⟨w.heap.size, 3, none⟩ = some (.int .u8 tt) := by rw [hw1]; simp [go_sem]
    have k4 : w1.cell? ⟨w.heap.size, 4, none⟩ = some (.int .u8 pr) := by rw [hw1]; simp [go_sem]
    have k5 : w1.cell? ⟨w.heap.size, 5, none⟩ = some (.int .u32 sr) := by rw [hw1]; simp [go_sem]
    have k6 : w1.cell? ⟨w.heap.size, 6, none⟩ = some (.int .u32 ds) := by rw [hw1]; simp [go_sem]
    have k7 : w1.cell? ⟨w.heap.size, 7, none⟩ = some (.string o) := by rw [hw1]; simp [go_sem]
    have k8 : w1.cell? ⟨w.heap.size, 8, none⟩ = some (.int .u16 size) := by rw [hw1]; simp [go_sem]
    have k9 : w1.cell? ⟨w.heap.size, 9, none⟩ = some (.int .u16 sum) := by rw [hw1]; simp [go_sem]
    have s1 : w.heap.size < w1.heap.size := by rw [hw1]; simp
    have B1 : Below w.heap.size w w1 := by rw [hw1]; exact (Below.refl _ _).alloc (Nat.le_refl _) _
    rw [← hw1]
    clear hw1
    have MK := Lib.hid (show ∀ w', Below w1.heap.size w1 w' → w'.cell? ⟨w.heap.size, 0, none⟩ = some (.int .u8 a) ∧ w'.cell? ⟨w.heap.size, 1, none⟩ = some (.int .u16 id) ∧ w'.cell? ⟨w.heap.size, 3, none⟩ = some (.int .u8 tt) ∧ w'.cell? ⟨w.heap.size, 4, none⟩ = some (.int .u8 pr) ∧ w'.cell? ⟨w.heap.size, 5, none⟩ = some (.int .u32 sr) ∧ w'.cell? ⟨w.heap.size, 6, none⟩ = some (.int .u32 ds) ∧ w'.cell? ⟨w.heap.size, 7, none⟩ = some (.string o) ∧ w'.cell? ⟨w.heap.size, 8, none⟩ = some (.int .u16 size) ∧ w'.cell? ⟨w.heap.size, 9, none⟩ = some (.int .u16 sum) ∧ Below w1.heap.size w1 w' from
      fun w' h => ⟨(h.cell (p := ⟨_, 0, none⟩) s1).trans k0, (h.cell (p := ⟨_, 1, none⟩) s1).trans k1, (h.cell (p := ⟨_, 3, none⟩) s1).trans k3, (h.cell (p := ⟨_, 4, none⟩) s1).trans k4, (h.cell (p := ⟨_, 5, none⟩) s1).trans k5, (h.cell (p := ⟨_, 6, none⟩) s1).trans k6, (h.cell (p := ⟨_, 7, none⟩) s1).trans k7, (h.cell (p := ⟨_, 8, none⟩) s1).trans k8, (h.cell (p := ⟨_, 9, none⟩) s1).trans k9, h⟩)
    clear k0 k1 k3 k4 k5 k6 k7 k8 k9
    go_region_held3 (fun w' => w'.cell? ⟨w.heap.size, 0, none⟩ = some (.int .u8 a) ∧ w'.cell? ⟨w.heap.size, 1, none⟩ = some (.int .u16 id) ∧ w'.cell? ⟨w.heap.size, 3, none⟩ = some (.int .u8 tt) ∧ w'.cell? ⟨w.heap.size, 4, none⟩ = some (.int .u8 pr) ∧ w'.cell? ⟨w.heap.size, 5, none⟩ = some (.int .u32 sr) ∧ w'.cell? ⟨w.heap.size, 6, none⟩ = some (.int .u32 ds) ∧ w'.cell? ⟨w.heap.size, 7, none⟩ = some (.string o) ∧ w'.cell? ⟨w.heap.size, 8, none⟩ = some (.int .u16 size) ∧ w'.cell? ⟨w.heap.size, 9, none⟩ = some (.int .u16 sum) ∧ Below w1.heap.size w1 w')
      ((go_split_ands
        refine MK.out _ ?_
        repeat
          first
            | assumption
            | exact Below.refl _ _
            | refine Below.drew ?_
            | refine Below.alloc ?_ ?_ _
            | (refine Below.trans ?_ (hbw.mono ?_))
            | (refine Below.size (B := w1.heap.size) ?_
               assumption)
            | focus (simp; done)
            | focus (simp; omega)))
      ((first
        | (go_at_call 38
           refine (cw _ _ ?_ ?_ ?_ ?_ ?_ ?_ ?_).mono ?_
           · simp
           · simp [go_sem]
           · simp [go_sem]
           · simp [go_sem]
           · simp [go_sem]
           · simp [go_sem]
           · simp [go_sem]
           rintro e w2 ⟨rfl, hbw⟩)
        | (go_at_call_of 39 sr
           refine (c5 _).mono ?_
           rintro e w2 ⟨rfl, hbw⟩)
        | (go_at_call_of 39 ds
           refine (c6 _).mono ?_
           rintro e w2 ⟨rfl, hbw⟩)))
    rename_i HH
    have b2 := HH.2.2.2.2.2.2.2.2.2
    clear MK cw c5 c6 HH
    go_wp2
    go_ret
    rw [← HV.out]
    exact ⟨rfl, B1.trans (b2.mono (by omega))⟩
end Go.Proofs.Ytfiokjenfmpmlaa
