/- Texts of this proof, together: WzE, WzF, WzG, WzN, WzW. -/
import Derived.Test.YtmephmjlajaopaaWa
import Derived.Test.YtmephmjlajaopaaLast
import Derived.Lib.AppendZeros
import Derived.Carry
namespace Go.Proofs.Ytmephmjlajaopaa
set_option linter.unusedVariables false
set_option maxRecDepth 100000
set_option linter.unusedSimpArgs false
open Go.ChangeShapes Go.WideShapes Go.ChangeAt Go.RowKit Go.PlainAid
attribute [local go_sem ↓] Go.wp_at_zero Go.wp_at_succ
/-- Places: maps. -/
def eltM : Elt (Option Nat) where
  enc x := [.map x]
  d := none
  k := 1
  bytes := 8
  T := 64
  TS := 52
  pos := by decide
  len _ := rfl
  one x u hu := by
    simp only [List.mem_cons, List.not_mem_nil, or_false] at hu
    subst hu; rfl
  und := Try.underlying52
  el := by kernel_rfl
  inf := by
    have h : (Try.prog.info? 64).map (fun i => (i.zero, i.size, i.bytes)) = some (some (.map none), 1, 8) := by kernel_rfl
    cases hq : Try.prog.info? 64 with
    | none => rw [hq] at h; simp at h
    | some i0 =>
      rw [hq] at h
      simp only [Option.map_some, Option.some.injEq, Prod.mk.injEq] at h
      exact ⟨i0, _, rfl, h.1, h.2.1, h.2.2, rfl⟩
  sz w := Try.sizeOf64 w
/-- How many places are gone over. -/
def Wh.many (x : Wh) (n now : Nat) : Nat := if n < now - x.last + 1 then n else now - x.last + 1
/-- The places that are gone over. -/
def Wh.gone (x : Wh) (n : Nat) (mb : Nat → Nat) (k : Nat) : List (Option Nat) := (List.range k).map fun i => some (mb ((x.last + i) % n))
theorem gone_len (x : Wh) (n : Nat) (mb : Nat → Nat) (k : Nat) : (x.gone n mb k).length = k := by simp [Wh.gone]
theorem gone_succ (x : Wh) (n : Nat) (mb : Nat → Nat) (k : Nat) : x.gone n mb (k + 1) = x.gone n mb k ++ [some (mb ((x.last + k) % n))] := by simp [Wh.gone, List.range_succ]
/-- append, as one step of a region that draws. -/
theorem step_appendP {P : Program} {ops : Array Oper} {o : Oper} {a : Act} {w : World} {K : Act → World → Prop} {Q : Exit → Act → World → Prop} {E : Prop} (hg : o.guard = none) (d x : Operand) (dT sT : TypeId) (hop : o.op = Op.call { callee := Callee.builtin Builtin.append, args := #[d, x], argTypes := #[dT, sT] })
    (v u : Value) (hd : a.eval d = v) (hx : a.eval x = u) {v' : Value} {w' : World} (hr : (Builtin.append_ #[dT, sT] o.type #[v, u]).run P w = .ok v' w') (hK : K (a.put o.dst v') w') :
    if Region.wanted o (yielded ops a.tmps) = true then Oper.wp P o a w K Q else E := by
  rw [if_pos (by simp [Region.wanted, hg])]
  exact Lib.wp_append_run w d x dT sT hop v u hd hx _ _ hr hK
section
variable {w w' : World} {p : Nat} {x : Wh} {n pb cap sb : Nat} {mb : Nat → Nat}
set_option maxHeartbeats 4000000 in
theorem wz_passed_ (h : WhI w p x n pb cap sb mb) (now : Nat) (h1 : x.last ≤ now) (h2 : now ≤ 1099511627776) : Calls Try.prog 28 #[.pointer (some ⟨p, 0, none⟩), .int .i64 (now : Int)] w fun e w' => ∃ (v : Value), e = .returned v ∧ eltM.Own w' w.heap.size v (x.gone n mb (x.many n now)) ∧ Below w.heap.size w w' := by
  have c0 := h.c0
  have c1 := h.c1
  have n64 := h.n64
  have n1 := h.n1
  obtain ⟨k, hk⟩ : ∃ k, k = x.many n now := ⟨_, rfl⟩
  have kn : k ≤ n := by rw [hk]; unfold Wh.many; split <;> omega
  have r1 : IntKind.i64.wrap ((now : Int) - (x.last : Int)) = (now : Int) - (x.last : Int) := by rw [IntKind.wrap_i64]; omega
  have r2 : IntKind.i64.wrap ((now : Int) - (x.last : Int) + 1) = (now : Int) - (x.last : Int) + 1 := by rw [IntKind.wrap_i64]; omega
  have em : (if (n : Int) < (now : Int) - (x.last : Int) + 1 then (n : Int) else (now : Int) - (x.last : Int) + 1) = (k : Int) := by
    rw [hk]; unfold Wh.many
    by_cases e : n < now - x.last + 1
    · rw [if_pos e, if_pos (by omega)]
    · rw [if_neg e, if_neg (by omega)]; omega
  have EM := Lib.hid em
  have KN := Lib.hid kn
  rw [← hk]
  have H := Lib.hid h
  clear h hk
  go_enter Try.func28, Try.ntmps28
  go_upto_region 2 with fail
  go_region
  go_wp2
  clear r1 r2 em
  go_loopw [5, 20] (fun v5 v20 wr => ∃ i : Nat, i ≤ k ∧ v20 = .int .i64 (i : Int) ∧ eltM.Own wr w.heap.size v5 (x.gone n mb i) ∧ Below w.heap.size w wr) (fun _ v20 _ => k - (intOf v20).toNat)
  case atStart => exact ⟨0, Nat.zero_le _, rfl, Elt.Own.nil _ _, (Below.refl _ _).drew⟩
  case round =>
    obtain ⟨i, hi, rfl, HO, HB0⟩ := hrel
    by_cases hlt : i < k
    · have HI := Lib.hid hlt
      have t1 : decide ((i : Int) < (k : Int)) = true := decide_eq_true (by omega)
      have t2 : decide (i < k) = true := decide_eq_true hlt
      have HR := H.out.on HB0
      have hj : (x.last + i) % n < n := Nat.mod_lt _ n1
      have q0 : wr.cell? ⟨p, 0, none⟩ = some (.int .i64 (x.last : Int)) := HR.c0
      have q1 : wr.cell? ⟨p, 1, none⟩ = some (.slice (some ⟨pb, 0, none⟩) n cap) := HR.c1
      have q2 := HR.pl _ hj
      have hs := gone_succ x n mb i
      have hb1 : x.last + i ≤ 2199023255552 := by omega
      obtain ⟨m, hm⟩ : ∃ m, m = x.last + i := ⟨_, rfl⟩
      rw [← hm] at hj q2 hs hb1
      have ea : (x.last : Int) + (i : Int) = (m : Int) := by omega
      have r3 : IntKind.i64.wrap (m : Int) = (m : Int) := by rw [IntKind.wrap_i64]; omega
      have KA : Hid (Calls _ _ _ wr.drew _) := wz_at_ (HR.on (Below.refl _ _).drew) m
      obtain ⟨i1, i2, i3, i4⟩ := place_facts hj n64
      generalize m % n = j at hj q2 KA hs i1 i2 i3 i4
      clear hm hb1
      obtain ⟨v', w', hrun, hown, hgrow, hnew⟩ := (HO.on (Below.refl _ _).drew).alloc (.cells #[.map (some (mb j))] 64) |>.append 52 (Elt.Sl.box wr.drew (some (mb j)) 64 #[.map (some (mb j))] rfl)
        (by rw [gone_len]; show (i + 1) * 8 ≤ _; omega) (by rw [gone_len]; show i + 1 ≤ 9223372036854775807; omega) (by have := HB0.size; simp; omega)
      have RUN := Lib.hid hrun
      have BA : Below w.heap.size w (wr.drew.alloc (.cells #[.map (some (mb j))] 64)) := HB0.drew.alloc HB0.size _
      have BN : Below w.heap.size w w' := BA.grown hgrow BA.size (fun g e => (HO.lt g e).1)
      have FIN : Hid (eltM.Own w' w.heap.size v' (x.gone n mb (i + 1)) ∧ Below w.heap.size w w') := ⟨by rw [hs]; exact hown, BN⟩
      have lp := HR.lp
      have lb := HR.lb
      have S1 : ∀ u, Below wr.heap.size wr u → u.cell? ⟨p, 0, none⟩ = some (.int .i64 (x.last : Int)) ∧ u.cell? ⟨p, 1, none⟩ = some (.slice (some ⟨pb, 0, none⟩) n cap) ∧ u.cell? ⟨pb, j, none⟩ = some (.map (some (mb j))) ∧ True := fun u hu => ⟨(hu.cell (p := ⟨p, 0, none⟩) lp).trans q0, (hu.cell (p := ⟨p, 1, none⟩) lp).trans q1, (hu.cell (p := ⟨pb, j, none⟩) lb).trans q2, trivial⟩
      have HA := Lib.hid (S1 _ (((Below.refl wr.heap.size wr).drew).alloc (Nat.le_refl _) (.cells #[.map (some (mb j))] 64)))
      have hh := H.out.on BN
      have HB : Hid (w'.cell? ⟨p, 0, none⟩ = some (.int .i64 (x.last : Int)) ∧ w'.cell? ⟨p, 1, none⟩ = some (.slice (some ⟨pb, 0, none⟩) n cap) ∧ w'.cell? ⟨pb, j, none⟩ = some (.map (some (mb j))) ∧ True) := ⟨hh.c0, hh.c1, hh.pl j hj, trivial⟩
      clear hh
      have HC := Lib.hid (S1 _ (Below.refl wr.heap.size wr).drew)
      obtain ⟨a5, c5, e5, _, _⟩ := HO.sl
      obtain ⟨a6, c6, e6, _, _⟩ := hown.sl
      have hi64 : i < 64 := by omega
      have hi63 : (i : Int) < 64 := by omega
      clear hrun hown hgrow hnew HO HB0 HR BA BN S1 lp lb q0 q1 q2 hs hlt hi
      subst e5
      subst e6
      generalize (x.gone n mb i).length = n5 at RUN ⊢
      generalize (x.gone n mb i ++ [some (mb j)]).length = n6 at RUN FIN
      go_upto_region 5 with fail
      refine region_till 17 (fun w' => w'.cell? ⟨p, 0, none⟩ = some (.int .i64 (x.last : Int)) ∧ w'.cell? ⟨p, 1, none⟩ = some (.slice (some ⟨pb, 0, none⟩) n cap) ∧ w'.cell? ⟨pb, j, none⟩ = some (.map (some (mb j))) ∧ True) (by kernel_rfl) HC.out (fun hHeld => ?_)
      try simp only [List.size_toArray, List.length_cons, List.length_nil, Array.replicate]
      refine till_take (i := 0) (oi := _) (v := ?_) rfl (by kernel_rfl) (by kernel_rfl) (by kernel_rfl) (by kernel_rfl) (by rfl) (fun _ _ _ h => h) (Or.inl ⟨by rfl, ?_⟩) (by assumption) ?_
      rotate_left
      · intro w hSw
        (try dsimp only at hSw)
        clear hSw
        go_simp
        with_reducible rfl
      try simp only [List.getElem_toArray, List.getElem_cons_succ, List.getElem_cons_zero, Act.put, List.setIfInBounds_toArray, List.set_cons_zero, List.set_cons_succ]
      refine till_take (i := 1) (oi := _) (v := ?_) rfl (by kernel_rfl) (by kernel_rfl) (by kernel_rfl) (by kernel_rfl) (by rfl) (fun _ _ _ h => h) (Or.inl ⟨by rfl, ?_⟩) (by assumption) ?_
      rotate_left
      · intro w hSw
        (try dsimp only at hSw)
        clear hSw
        go_simp
        with_reducible rfl
      try simp only [List.getElem_toArray, List.getElem_cons_succ, List.getElem_cons_zero, Act.put, List.setIfInBounds_toArray, List.set_cons_zero, List.set_cons_succ]
      refine till_take (i := 2) (oi := _) (v := ?_) rfl (by kernel_rfl) (by kernel_rfl) (by kernel_rfl) (by kernel_rfl) (by rfl) (fun _ _ _ h => h) (Or.inl ⟨by rfl, ?_⟩) (by assumption) ?_
      rotate_left
      · intro w hSw
        (try dsimp only at hSw)
        clear hSw
        go_simp
        with_reducible rfl
      try simp only [List.getElem_toArray, List.getElem_cons_succ, List.getElem_cons_zero, Act.put, List.setIfInBounds_toArray, List.set_cons_zero, List.set_cons_succ]
      refine till_take (i := 3) (oi := _) (v := ?_) rfl (by kernel_rfl) (by kernel_rfl) (by kernel_rfl) (by kernel_rfl) (by rfl) (fun _ _ _ h => h) (Or.inl ⟨by rfl, ?_⟩) (by assumption) ?_
      rotate_left
      · intro w hSw
        (try dsimp only at hSw)
        clear hSw
        go_simp
        with_reducible rfl
      try simp only [List.getElem_toArray, List.getElem_cons_succ, List.getElem_cons_zero, Act.put, List.setIfInBounds_toArray, List.set_cons_zero, List.set_cons_succ]
      refine till_take (i := 4) (oi := _) (v := ?_) rfl (by kernel_rfl) (by kernel_rfl) (by kernel_rfl) (by kernel_rfl) (by rfl) (fun _ _ _ h => h) (Or.inl ⟨by rfl, ?_⟩) (by assumption) ?_
      rotate_left
      · intro w hSw
        (try dsimp only at hSw)
        obtain ⟨q0, q1, q2, qb⟩ := hSw
        go_simp
        with_reducible rfl
      try simp only [List.getElem_toArray, List.getElem_cons_succ, List.getElem_cons_zero, Act.put, List.setIfInBounds_toArray, List.set_cons_zero, List.set_cons_succ]
      refine till_take (i := 5) (oi := _) (v := ?_) rfl (by kernel_rfl) (by kernel_rfl) (by kernel_rfl) (by kernel_rfl) (by rfl) (fun _ _ _ h => h) (Or.inl ⟨by rfl, ?_⟩) (by assumption) ?_
      rotate_left
      · intro w hSw
        (try dsimp only at hSw)
        clear hSw
        go_simp
        with_reducible rfl
      try simp only [List.getElem_toArray, List.getElem_cons_succ, List.getElem_cons_zero, Act.put, List.setIfInBounds_toArray, List.set_cons_zero, List.set_cons_succ]
      refine till_take (i := 6) (oi := _) (v := ?_) rfl (by kernel_rfl) (by kernel_rfl) (by kernel_rfl) (by kernel_rfl) (by rfl) (fun _ _ _ h => h) (Or.inl ⟨by rfl, ?_⟩) (by assumption) ?_
      rotate_left
      · intro w hSw
        (try dsimp only at hSw)
        clear hSw
        go_simp
        with_reducible rfl
      try simp only [List.getElem_toArray, List.getElem_cons_succ, List.getElem_cons_zero, Act.put, List.setIfInBounds_toArray, List.set_cons_zero, List.set_cons_succ]
      refine till_take (i := 7) (oi := _) (v := ?_) rfl (by kernel_rfl) (by kernel_rfl) (by kernel_rfl) (by kernel_rfl) (by rfl) (fun _ _ _ h => h) (Or.inl ⟨by rfl, ?_⟩) (by assumption) ?_
      rotate_left
      · intro w hSw
        (try dsimp only at hSw)
        clear hSw
        go_simp
        with_reducible rfl
      try simp only [List.getElem_toArray, List.getElem_cons_succ, List.getElem_cons_zero, Act.put, List.setIfInBounds_toArray, List.set_cons_zero, List.set_cons_succ]
      refine till_take (i := 8) (oi := _) (v := ?_) rfl (by kernel_rfl) (by kernel_rfl) (by kernel_rfl) (by kernel_rfl) (by rfl) (fun _ _ _ h => h) (Or.inl ⟨by rfl, ?_⟩) (by assumption) ?_
      rotate_left
      · intro w hSw
        (try dsimp only at hSw)
        clear hSw
        go_simp
        with_reducible rfl
      try simp only [List.getElem_toArray, List.getElem_cons_succ, List.getElem_cons_zero, Act.put, List.setIfInBounds_toArray, List.set_cons_zero, List.set_cons_succ]
      refine till_take (i := 9) (oi := _) (v := ?_) rfl (by kernel_rfl) (by kernel_rfl) (by kernel_rfl) (by kernel_rfl) (by rfl) (fun _ _ _ h => h) (Or.inl ⟨by rfl, ?_⟩) (by assumption) ?_
      rotate_left
      · intro w hSw
        (try dsimp only at hSw)
        obtain ⟨q0, q1, q2, qb⟩ := hSw
        go_simp
        with_reducible rfl
      try simp only [List.getElem_toArray, List.getElem_cons_succ, List.getElem_cons_zero, Act.put, List.setIfInBounds_toArray, List.set_cons_zero, List.set_cons_succ]
      refine till_take (i := 10) (oi := _) (v := ?_) rfl (by kernel_rfl) (by kernel_rfl) (by kernel_rfl) (by kernel_rfl) (by rfl) (fun _ _ _ h => h) (Or.inl ⟨by rfl, ?_⟩) (by assumption) ?_
      rotate_left
      · intro w hSw
        (try dsimp only at hSw)
        clear hSw
        go_simp
        with_reducible rfl
      try simp only [List.getElem_toArray, List.getElem_cons_succ, List.getElem_cons_zero, Act.put, List.setIfInBounds_toArray, List.set_cons_zero, List.set_cons_succ]
      refine till_take (i := 11) (oi := _) (v := ?_) rfl (by kernel_rfl) (by kernel_rfl) (by kernel_rfl) (by kernel_rfl) (by rfl) (fun _ _ _ h => h) (Or.inl ⟨by rfl, ?_⟩) (by assumption) ?_
      rotate_left
      · intro w hSw
        (try dsimp only at hSw)
        clear hSw
        go_simp
        with_reducible rfl
      try simp only [List.getElem_toArray, List.getElem_cons_succ, List.getElem_cons_zero, Act.put, List.setIfInBounds_toArray, List.set_cons_zero, List.set_cons_succ]
      refine till_ready (rs := [12]) (by kernel_rfl) (by simp) ?_
      refine TillAll.cons (o := _) rfl (by rfl) (fun K hK => ?_) TillAll.nil
      go_simp
      go_at_call 32
      refine KA.out.mono ?_
      rintro e w2 ⟨rfl, rfl⟩
      refine hK.out _ _ hHeld (fun _ => ?_)
      clear hK K
      try simp only [List.getElem_toArray, List.getElem_cons_succ, List.getElem_cons_zero, Act.put, List.setIfInBounds_toArray, List.set_cons_zero, List.set_cons_succ]
      refine till_take (i := 13) (oi := _) (v := ?_) rfl (by kernel_rfl) (by kernel_rfl) (by kernel_rfl) (by kernel_rfl) (by rfl) (fun _ _ _ h => h) (Or.inl ⟨by rfl, ?_⟩) (by assumption) ?_
      rotate_left
      · intro w hSw
        (try dsimp only at hSw)
        clear hSw
        go_simp
        with_reducible rfl
      try simp only [List.getElem_toArray, List.getElem_cons_succ, List.getElem_cons_zero, Act.put, List.setIfInBounds_toArray, List.set_cons_zero, List.set_cons_succ]
      refine till_take (i := 14) (oi := _) (v := ?_) rfl (by kernel_rfl) (by kernel_rfl) (by kernel_rfl) (by kernel_rfl) (by rfl) (fun _ _ _ h => h) (Or.inl ⟨by rfl, ?_⟩) (by assumption) ?_
      rotate_left
      · intro w hSw
        (try dsimp only at hSw)
        obtain ⟨q0, q1, q2, qb⟩ := hSw
        go_simp
        with_reducible rfl
      try simp only [List.getElem_toArray, List.getElem_cons_succ, List.getElem_cons_zero, Act.put, List.setIfInBounds_toArray, List.set_cons_zero, List.set_cons_succ]
      refine till_ready (rs := [15]) (by kernel_rfl) (by simp) ?_
      refine TillAll.cons (o := _) rfl (by rfl) (fun K hK => ?_) TillAll.nil
      go_simp
      refine hK.out _ _ HA.out (fun _ => ?_)
      clear hK K
      try simp only [List.getElem_toArray, List.getElem_cons_succ, List.getElem_cons_zero, Act.put, List.setIfInBounds_toArray, List.set_cons_zero, List.set_cons_succ]
      refine till_ready (rs := [16]) (by kernel_rfl) (by simp) ?_
      refine TillAll.cons (o := _) rfl (by rfl) (fun K hK => ?_) TillAll.nil
      refine step_appendP rfl _ _ 52 52 rfl _ _ (by simp [Act.eval, Act.put]) (by simp [Act.eval, Act.put]) RUN.out ?_
      refine hK.out _ _ HB.out (fun _ => ?_)
      clear hK K
      try simp only [List.getElem_toArray, List.getElem_cons_succ, List.getElem_cons_zero, Act.put, List.setIfInBounds_toArray, List.set_cons_zero, List.set_cons_succ]
      refine till_last (by kernel_rfl) (by kernel_rfl) rfl (fun K hK => ?_)
      go_simp
      refine hK.out _ _ ?_
      clear hK K
      go_wp2
      go_roundw
      case rel => exact ⟨i + 1, HI.out, by go_num, FIN.out.1, FIN.out.2⟩
      case measure =>
        have := HI.out
        simp [intOf]
        omega
    · obtain rfl : i = k := Nat.le_antisymm hi (Nat.le_of_not_lt hlt)
      have t1 : decide ((i : Int) < (i : Int)) = false := by simp
      have FIN := Lib.hid (And.intro HO HB0)
      clear HO HB0 hlt hi
      go_wp2
      go_ret
      exact ⟨_, rfl, FIN.out.1, FIN.out.2⟩
end
end Go.Proofs.Ytmephmjlajaopaa

namespace Go.Proofs.Ytmephmjlajaopaa
set_option linter.unusedVariables false
set_option maxRecDepth 100000
set_option linter.unusedSimpArgs false
open Go.ChangeShapes Go.WideShapes Go.ChangeAt Go.RowKit Go.PlainAid
attribute [local go_sem ↓] Go.wp_at_zero Go.wp_at_succ
section
variable {w w' : World} {p : Nat} {x : Wh} {n pb cap sb : Nat} {mb : Nat → Nat}
theorem key_is (t : Ti) (s g : Int) : (!t.is s g) = decide (t.key ≠ (s, g)) := by
  cases h : t.is s g with
  | true =>
    obtain ⟨e1, e2⟩ := (t.is_iff s g).1 h
    have : t.key = (s, g) := Prod.ext e1 e2
    simp [this]
  | false =>
    have : t.key ≠ (s, g) := fun e => by rw [(t.is_iff s g).2 ⟨congrArg Prod.fst e, congrArg Prod.snd e⟩] at h; cases h
    simp [this]
theorem cut_st (x : Wh) (n : Nat) (s g : Int) : (x.cutT s g).stL n = but (x.stL n) (s, g) := by
  unfold Wh.stL but
  rw [List.filter_map]
  show ((x.l.filter fun t => !t.is s g).map _) = _
  have : (x.l.filter fun t => !t.is s g) = x.l.filter ((fun p : HE => decide (p.1 ≠ (s, g))) ∘ fun t => (t.key, ((x.atN n t : Nat) : Int))) := List.filter_congr fun t _ => key_is t s g
  rw [this]
  rfl
theorem cut_pl (x : Wh) (n i : Nat) (s g : Int) : (x.cutT s g).plL n i = but (x.plL n i) (s, g) := by
  unfold Wh.plL but
  rw [List.filter_map]
  show (((x.l.filter fun t => !t.is s g).filter fun t => decide ((x.cutT s g).atN n t = i)).map _) = _
  rw [List.filter_filter, List.filter_filter]
  have : (x.l.filter fun t => decide ((x.cutT s g).atN n t = i) && !t.is s g) = x.l.filter fun t => ((fun p : HE => decide (p.1 ≠ (s, g))) ∘ fun t : Ti => (t.key, (t.d : Int))) t && decide (x.atN n t = i) := List.filter_congr fun t _ => by
    rw [key_is, Bool.and_comm]
    rfl
  rw [this]
theorem cut_none {s g : Int} (hh : x.has s g = false) : x.cutT s g = x := by
  unfold Wh.cutT
  have : (x.l.filter fun t => !t.is s g) = x.l := List.filter_eq_self.2 fun t ht => by have := List.any_eq_false.1 hh t ht; simpa using this
  rw [this]
/-- A handle stands in one place alone. -/
theorem pl_other (ok : x.Ok) {t : Ti} (ht : t ∈ x.l) {i : Nat} (hi : i ≠ x.atN n t) : ∀ v, (t.key, v) ∉ x.plL n i := fun v hv => by
  obtain ⟨u, hu, e⟩ := List.mem_map.1 hv
  obtain ⟨hu1, hu2⟩ := List.mem_filter.1 hu
  have e1 : u.key = t.key := congrArg Prod.fst e
  have hut : u = t := by
    refine Classical.byContradiction fun hne => ?_
    obtain ⟨a, ha, rfl⟩ := List.mem_iff_getElem.1 hu1
    obtain ⟨b, hb, rfl⟩ := List.mem_iff_getElem.1 ht
    have hp := List.pairwise_iff_getElem.1 ok.nd
    have h1 : x.l[a].s = x.l[b].s := congrArg Prod.fst e1
    have h2 : x.l[a].g = x.l[b].g := congrArg Prod.snd e1
    rcases Nat.lt_trichotomy a b with h | h | h
    · exact hp a b ha hb h ⟨h1, h2⟩
    · subst h; exact hne rfl
    · exact hp b a hb ha h ⟨h1.symm, h2.symm⟩
  subst hut
  have hu3 : x.atN n u = i := by simpa using hu2
  exact hi hu3.symm
set_option maxHeartbeats 4000000 in
/-- (*Wheel).Cut. -/
theorem wz_cut_ (h : WhI w p x n pb cap sb mb) {s g : Int} (hk : HOk s g) : Calls Try.prog 12 #[.pointer (some ⟨p, 0, none⟩), .agg #[.int .i64 s, .int .u32 g]] w fun e w' => e = .returned (.bool (x.has s g)) ∧ WhI w' p (x.cutT s g) n pb cap sb mb ∧ Beside (whS p n pb sb mb) w w' := by
  have H := Lib.hid h
  clear h
  go_enter Try.func12, Try.ntmps12
  go_upto_region 1 with fail
  have f1 : Fw w (w.alloc (.cells #[.int .i64 s, .int .u32 g] 34)) := (Fw.refl w).alloc _
  have b0 : (w.alloc (.cells #[.int .i64 s, .int .u32 g] 34)).cell? ⟨w.heap.size, 0, none⟩ = some (.int .i64 s) := World.cell?_alloc_mark w #[.int .i64 s, .int .u32 g] 34 (0, 0) 0
  have b1 : (w.alloc (.cells #[.int .i64 s, .int .u32 g] 34)).cell? ⟨w.heap.size, 1, none⟩ = some (.int .u32 g) := World.cell?_alloc_mark w #[.int .i64 s, .int .u32 g] 34 (0, 0) 1
  have lc : w.heap.size < (w.alloc (.cells #[.int .i64 s, .int .u32 g] 34)).heap.size := by simp
  have H1 := Lib.hid (H.out.on f1.b)
  have F1 := Lib.hid f1
  have CN : ∀ k, whS p n pb sb mb k → k ≠ w.heap.size := fun k hk e => by have := H.out.lt k hk; omega
  have CNH := Lib.hid CN
  clear f1 CN
  generalize w.alloc (.cells #[.int .i64 s, .int .u32 g] 34) = w1 at b0 b1 lc H1 F1 ⊢
  generalize w.heap.size = c at b0 b1 lc CNH ⊢
  have kh := wz_has_ H1.out hk
  have LC := Lib.hid lc
  have B0 := Lib.hid b0
  have B1 := Lib.hid b1
  cases hh : x.has s g with
  | true =>
    rw [hh] at kh
    obtain ⟨t, ht, es, eg⟩ := has_mem hh
    have ek : t.key = (s, g) := Prod.ext es eg
    have HT := Lib.hid ht
    have EK := Lib.hid ek
    have HH := Lib.hid hh
    clear hh ht es eg lc ek
    go_upto_region 3 with (go_at_call 25; refine kh.mono ?_; rintro e w2 ⟨rfl, f2⟩)
    have H2 := H1.out.on f2.b
    have c0' := (f2.b.cell (p := ⟨c, 0, none⟩) LC.out).trans B0.out
    have c1' := (f2.b.cell (p := ⟨c, 1, none⟩) LC.out).trans B1.out
    have LC2 := Lib.hid (Nat.lt_of_lt_of_le LC.out f2.b.size)
    have F2 := Lib.hid (F1.out.trans f2)
    have c1 := H2.c1
    have c2 := H2.c2
    have hj := atN_lt (x := x) H2.n1 t
    obtain ⟨i1, i2, i3, i4⟩ := place_facts hj H2.n64
    have pl := H2.pl _ hj
    have l1 := (H2.st.on (w' := w2.drew) (Below.refl _ _).drew).look Try.underlying53 (st_mem HT.out)
    obtain ⟨w3, dr, dm, dt⟩ := ((H2.pm _ hj).on (w' := w2.drew) (Below.refl _ _).drew).del Try.underlying64 (pl_mem HT.out) 0
    rw [EK.out] at l1 dr dm
    have OTH := Lib.hid (fun i (hi : i ≠ x.atN n t) => pl_other H2.ok HT.out hi)
    rw [EK.out] at OTH
    have STM := Lib.hid (st_mem (n := n) HT.out)
    rw [EK.out] at STM
    unfold hV at l1 dr
    simp only [] at l1 dr
    generalize x.atN n t = j at hj i1 i2 i3 i4 pl l1 dr dm dt OTH STM
    have dg := dt.grown
    have nj : ∀ k, whS p n pb sb mb k → k ≠ c := CNH.out
    have ncj : c ≠ mb j := fun e => nj (mb j) (.inr (.inr (.inr ⟨j, hj, rfl⟩))) e.symm
    have npj : p ≠ mb j := fun e => by
      have hc := H2.c0
      obtain ⟨D, ⟨es, clock, hb, _⟩, _⟩ := (H2.pm j hj).da
      rw [← e] at hb
      simp [World.cell?, hb] at hc
    have npbj : pb ≠ mb j := fun e => by
      have hc := H2.pl j hj
      obtain ⟨D, ⟨es, clock, hb, _⟩, _⟩ := (H2.pm j hj).da
      rw [← e] at hb
      simp [World.cell?, hb] at hc
    have blk : ∀ k, k < w2.heap.size → k ≠ mb j → w3.heap[k]? = w2.heap[k]? := fun k hk hn => dg.block k hk (fun e => hn (by injection e))
    have sz3 : w2.heap.size ≤ w3.heap.size := dg.size
    have c2' : w3.cell? ⟨p, 2, none⟩ = some (.map (some sb)) := (World.cell?_of_block (w := w2) (a := ⟨p, 2, none⟩) (blk p H2.lp npj)).trans H2.c2
    have c0'' : w3.cell? ⟨c, 0, none⟩ = some (.int .i64 s) := (World.cell?_of_block (w := w2) (a := ⟨c, 0, none⟩) (blk c LC2.out ncj)).trans c0'
    have c1'' : w3.cell? ⟨c, 1, none⟩ = some (.int .u32 g) := (World.cell?_of_block (w := w2) (a := ⟨c, 1, none⟩) (blk c LC2.out ncj)).trans c1'
    have st3 : MapL w3 sb (x.stL n) := H2.st.keep (blk sb H2.st.lt (Ne.symm (H2.sne j hj)))
    obtain ⟨w4, er, em, et⟩ := (st3.on (w' := w3.drew) (Below.refl _ _).drew).del Try.underlying53 STM.out 0
    unfold hV at er
    simp only [] at er
    have eg2 := et.grown
    have blk4 : ∀ k, k < w3.heap.size → k ≠ sb → w4.heap[k]? = w3.heap[k]? := fun k hk hn => eg2.block k hk (fun e => hn (by injection e))
    have nps : p ≠ sb := fun e => by
      have hc := H2.c0
      obtain ⟨D, ⟨es, clock, hb, _⟩, _⟩ := H2.st.da
      rw [← e] at hb
      simp [World.cell?, hb] at hc
    have npbs : pb ≠ sb := fun e => by
      have hc := H2.pl j hj
      obtain ⟨D, ⟨es, clock, hb, _⟩, _⟩ := H2.st.da
      rw [← e] at hb
      simp [World.cell?, hb] at hc
    have FIN : Hid (WhI w4 p (x.cutT s g) n pb cap sb mb ∧ Beside (whS p n pb sb mb) w w4) := by
      have sz4 : w3.heap.size ≤ w4.heap.size := eg2.size
      have bp : w4.heap[p]? = w2.heap[p]? := (blk4 p (Nat.lt_of_lt_of_le H2.lp sz3) nps).trans (blk p H2.lp npj)
      have bpb : w4.heap[pb]? = w2.heap[pb]? := (blk4 pb (Nat.lt_of_lt_of_le H2.lb sz3) npbs).trans (blk pb H2.lb npbj)
      refine ⟨⟨H2.ok.cut s g, Nat.lt_of_lt_of_le H2.lp (Nat.le_trans sz3 sz4), (World.cell?_of_block (w := w2) (a := ⟨p, 0, none⟩) bp).trans H2.c0, (World.frozen?_of_block (w := w2) (a := ⟨p, 0, none⟩) bp).trans H2.f0, (World.cell?_of_block (w := w2) (a := ⟨p, 1, none⟩) bp).trans H2.c1, (World.cell?_of_block (w := w2) (a := ⟨p, 2, none⟩) bp).trans H2.c2, H2.n1, H2.n64,
        Nat.lt_of_lt_of_le H2.lb (Nat.le_trans sz3 sz4), fun i hi => (World.cell?_of_block (w := w2) (a := ⟨pb, i, none⟩) bpb).trans (H2.pl i hi), by rw [cut_st]; exact em, fun i hi => ?_, H2.ne, H2.inj, H2.sne⟩, ?_⟩
      · rw [cut_pl]
        by_cases e : i = j
        · subst e
          exact dm.keep (blk4 _ (Nat.lt_of_lt_of_le (H2.pm i hi).lt sz3) (H2.sne i hi))
        · rw [but_none (OTH.out i e)]
          exact (H2.pm i hi).keep ((blk4 _ (Nat.lt_of_lt_of_le (H2.pm i hi).lt sz3) (H2.sne i hi)).trans (blk _ (H2.pm i hi).lt (fun e2 => e (H2.inj i j hi hj e2))))
      · refine (Beside.of F2.out.b).trans ?_
        refine ⟨eg2.os.trans dg.os, eg2.tape.trans dg.tape, eg2.output.trans dg.output, Nat.le_trans sz3 sz4, fun k hk hn => ?_⟩
        exact (blk4 k (Nat.lt_of_lt_of_le hk sz3) (fun e => hn (.inr (.inr (.inl e))))).trans (blk k hk (fun e => hn (.inr (.inr (.inr ⟨j, hj, e⟩)))))
    clear dm dt dg blk sz3 st3 em et eg2 blk4 nj ncj npj npbj nps npbs H1 kh f2 H2 b0 b1
    clear F1 F2 LC LC2 B0 B1 CNH
    go_region
    clear c1 c2 c0' c1' l1 dr pl
    go_upto_region 4 with fail
    go_region
    go_wp2
    go_ret
    rw [HH.out]
    exact ⟨rfl, FIN.out.1, FIN.out.2⟩
  | false =>
    rw [hh] at kh
    have HS := Lib.hid hh
    clear hh
    go_wp2_with (go_at_call 25; refine kh.mono ?_; rintro e w2 ⟨rfl, f2⟩)
    go_ret
    rw [cut_none HS.out, HS.out]
    exact ⟨rfl, H1.out.on f2.b, Beside.of (F1.out.trans f2).b⟩
end
end Go.Proofs.Ytmephmjlajaopaa

namespace Go.Proofs.Ytmephmjlajaopaa
set_option linter.unusedVariables false
set_option maxRecDepth 100000
set_option linter.unusedSimpArgs false
open Go.ChangeShapes Go.WideShapes Go.ChangeAt Go.RowKit Go.PlainAid
attribute [local go_sem ↓] Go.wp_at_zero Go.wp_at_succ
section
variable {w w' : World} {p : Nat} {x : Wh} {n pb cap sb : Nat} {mb : Nat → Nat}
theorem ins_perm (l : List Ti) (t : Ti) : (Wh.ins l t).Perm (t :: l) := by
  have e : l = l.takeWhile (fun a => a.ahead t) ++ l.dropWhile (fun a => a.ahead t) := List.takeWhile_append_dropWhile.symm
  unfold Wh.ins
  conv => rhs; rw [e]
  exact List.perm_middle
theorem put_new {s g d : Int} (hd : Wh.mayD d) (hh : x.has s g = false) : x.putT s g d = { x with l := Wh.ins x.l ⟨s, g, d.toNat⟩ } ∧ x.putE s g d = 0 := by
  unfold Wh.putT Wh.putE
  rw [if_pos hd, if_pos hd, hh]
  exact ⟨rfl, rfl⟩
theorem put_have {s g d : Int} (hd : Wh.mayD d) (hh : x.has s g = true) : x.putT s g d = x ∧ x.putE s g d = 7 := by
  unfold Wh.putT Wh.putE
  rw [if_pos hd, if_pos hd, hh]
  exact ⟨rfl, rfl⟩
theorem put_bad {s g d : Int} (hd : ¬ Wh.mayD d) : x.putT s g d = x ∧ x.putE s g d = 2 := by
  unfold Wh.putT Wh.putE
  rw [if_neg hd, if_neg hd]
  exact ⟨rfl, rfl⟩
theorem put_st (x : Wh) (n : Nat) (t : Ti) : ((t.key, ((x.atN n t : Nat) : Int)) :: x.stL n).Perm (Wh.stL { x with l := Wh.ins x.l t } n) := by
  exact ((ins_perm x.l t).map (fun u : Ti => (u.key, ((x.atN n u : Nat) : Int)))).symm
theorem put_pl (x : Wh) (n i : Nat) (t : Ti) (h : x.atN n t = i) : ((t.key, (t.d : Int)) :: x.plL n i).Perm (Wh.plL { x with l := Wh.ins x.l t } n i) := by
  have h1 := (((ins_perm x.l t).filter (fun u => decide (x.atN n u = i))).map (fun u : Ti => (u.key, (u.d : Int)))).symm
  rw [List.filter_cons, if_pos (by simpa using h)] at h1
  exact h1
theorem put_pl2 (x : Wh) (n i : Nat) (t : Ti) (h : x.atN n t ≠ i) : (x.plL n i).Perm (Wh.plL { x with l := Wh.ins x.l t } n i) := by
  have h1 := (((ins_perm x.l t).filter (fun u => decide (x.atN n u = i))).map (fun u : Ti => (u.key, (u.d : Int)))).symm
  rw [List.filter_cons, if_neg (by simpa using h)] at h1
  exact h1
theorem pl_len (x : Wh) (n i : Nat) : (x.plL n i).length ≤ x.l.length := by unfold Wh.plL; rw [List.length_map]; exact List.length_filter_le _ _
theorem st_len (x : Wh) (n : Nat) : (x.stL n).length = x.l.length := by unfold Wh.stL; rw [List.length_map]
set_option maxHeartbeats 1500000 in
/-- (*Wheel).Put. -/
theorem wz_put_ (h : WhI w p x n pb cap sb mb) (hl : x.l.length ≤ 1000) {s g d : Int} (hk : HOk s g) : Calls Try.prog 17 #[.pointer (some ⟨p, 0, none⟩), .agg #[.int .i64 s, .int .u32 g], .int .i64 d] w fun e w' => e = .returned (.int .i64 (x.putE s g d : Int)) ∧ WhI w' p (x.putT s g d) n pb cap sb mb ∧ Beside (whS p n pb sb mb) w w' := by
  have H := Lib.hid h
  have HL := Lib.hid hl
  clear h hl
  go_enter Try.func17, Try.ntmps17
  go_upto_region 1 with fail
  have f1 : Fw w (w.alloc (.cells #[.int .i64 s, .int .u32 g] 34)) := (Fw.refl w).alloc _
  have b0 : (w.alloc (.cells #[.int .i64 s, .int .u32 g] 34)).cell? ⟨w.heap.size, 0, none⟩ = some (.int .i64 s) := World.cell?_alloc_mark w #[.int .i64 s, .int .u32 g] 34 (0, 0) 0
  have b1 : (w.alloc (.cells #[.int .i64 s, .int .u32 g] 34)).cell? ⟨w.heap.size, 1, none⟩ = some (.int .u32 g) := World.cell?_alloc_mark w #[.int .i64 s, .int .u32 g] 34 (0, 0) 1
  have lc : w.heap.size < (w.alloc (.cells #[.int .i64 s, .int .u32 g] 34)).heap.size := by simp
  have H1 := Lib.hid (H.out.on f1.b)
  have F1 := Lib.hid f1
  have CN : ∀ k, whS p n pb sb mb k → k ≠ w.heap.size := fun k hk e => by have := H.out.lt k hk; omega
  have CNH := Lib.hid CN
  clear f1 CN
  generalize w.alloc (.cells #[.int .i64 s, .int .u32 g] 34) = w1 at b0 b1 lc H1 F1 ⊢
  generalize w.heap.size = c at b0 b1 lc CNH ⊢
  have kn := wz_none_ H1.out
  have kh := wz_has_ H1.out hk
  have LC := Lib.hid lc
  have B0 := Lib.hid b0
  have B1 := Lib.hid b1
  by_cases hd : ¬ Wh.mayD d
  · have HV := Lib.hid (put_bad (x := x) (s := s) (g := g) hd)
    by_cases h0 : d < 0
    · have t1 : decide (d < 0) = true := decide_eq_true h0
      clear hd kh
      go_wp2_with (go_at_call 27; refine kn.mono ?_; rintro e w2 ⟨rfl, rfl⟩)
      go_ret
      rw [HV.out.1, HV.out.2]
      exact ⟨rfl, H1.out, Beside.of F1.out.b⟩
    · have t1 : decide (d < 0) = false := decide_eq_false h0
      have t2 : decide (1099511627776 < d) = true := by
        refine decide_eq_true ?_
        have : ¬ d ≤ 1099511627776 := fun e => hd ⟨by omega, e⟩
        omega
      clear hd kh
      go_wp2_with (go_at_call 27; refine kn.mono ?_; rintro e w2 ⟨rfl, rfl⟩)
      go_ret
      rw [HV.out.1, HV.out.2]
      exact ⟨rfl, H1.out, Beside.of F1.out.b⟩
  · have hd := Decidable.not_not.1 hd
    have HD := Lib.hid hd
    obtain ⟨d, rfl⟩ := Int.eq_ofNat_of_zero_le hd.1
    have dm : d ≤ 1099511627776 := by have := hd.2; unfold Wh.max at this; omega
    have t1 : decide ((d : Int) < 0) = false := decide_eq_false (by omega)
    have t2 : decide ((1099511627776 : Int) < (d : Int)) = false := decide_eq_false (by omega)
    have t3 : decide (1099511627776 < d) = false := decide_eq_false (by omega)
    cases hh : x.has s g with
    | true =>
      have HV := Lib.hid (put_have hd hh)
      rw [hh] at kh
      clear hh hd
      go_upto_region 5 with (go_at_call 27; refine kn.mono ?_; rintro e w2 ⟨rfl, rfl⟩)
      go_wp2_with (go_at_call 25; refine kh.mono ?_; rintro e w2 ⟨rfl, f2⟩)
      go_ret
      rw [HV.out.1, HV.out.2]
      exact ⟨rfl, H1.out.on f2.b, Beside.of (F1.out.trans f2).b⟩
    | false =>
      have HV := Lib.hid (put_new hd hh)
      have HH := Lib.hid hh
      rw [hh] at kh
      clear hh hd
      go_upto_region 5 with (go_at_call 27; refine kn.mono ?_; rintro e w2 ⟨rfl, rfl⟩)
      go_upto_region 7 with (go_at_call 25; refine kh.mono ?_; rintro e w2 ⟨rfl, f2⟩)
      have H2 := H1.out.on f2.b
      have c0' := (f2.b.cell (p := ⟨c, 0, none⟩) LC.out).trans B0.out
      have c1' := (f2.b.cell (p := ⟨c, 1, none⟩) LC.out).trans B1.out
      have LC2 := Lib.hid (Nat.lt_of_lt_of_le LC.out f2.b.size)
      have F2 := Lib.hid (F1.out.trans f2)
      have q0 := H2.c0
      have c1 := H2.c1
      have c2 := H2.c2
      rcases Nat.lt_or_ge d x.last with hlt | hlt
      · clear t1 t2
        have AT : Hid (x.atN n ⟨s, g, d⟩ = x.last % n) := by show Nat.max d x.last % n = _; rw [show Nat.max d x.last = x.last from Nat.max_eq_right (Nat.le_of_lt hlt)]
        have e1 : (d : Int) < (x.last : Int) := by omega
        have e2 : d < x.last := hlt
        have ka := wz_at_ H2 x.last
        have hj : x.last % n < n := Nat.mod_lt _ H2.n1
        have n64 := H2.n64
        clear hlt
        generalize x.last % n = j at AT ka hj
        go_upto_region 8 with (go_at_call 32; refine ka.mono ?_; rintro e w3 ⟨rfl, hw3⟩; obtain rfl : w2 = w3 := hw3.symm)
        clear ka e1 e2
        obtain ⟨i1, i2, i3, i4⟩ := place_facts hj n64
        have H2 := H1.out.on f2.b
        have pl := H2.pl _ hj
        have NL : Hid ((x.stL n).length < 1000000 ∧ (x.plL n j).length < 1000000) := ⟨by rw [st_len]; exact Nat.lt_of_le_of_lt HL.out (by decide), Nat.lt_of_le_of_lt (Nat.le_trans (pl_len x n j) HL.out) (by decide)⟩
        obtain ⟨w3, dr, dmm, dt⟩ := (H2.st.on (w' := w2.drew) (Below.refl _ _).drew).put Try.underlying53 (k := (s, g)) hk (st_none HH.out) (v := (j : Int)) (wf_i64 (by omega) (by omega)) NL.out.1
        unfold hV at dr
        simp only [] at dr
        have dg := dt.grown
        have nj : ∀ k, whS p n pb sb mb k → k ≠ c := CNH.out
        have ncs : c ≠ sb := fun e => nj sb (.inr (.inr (.inl rfl))) e.symm
        have nps : p ≠ sb := fun e => by
          have hc := H2.c0
          obtain ⟨D, ⟨es, clock, hb, _⟩, _⟩ := H2.st.da
          rw [← e] at hb
          simp [World.cell?, hb] at hc
        have npbs : pb ≠ sb := fun e => by
          have hc := H2.pl j hj
          obtain ⟨D, ⟨es, clock, hb, _⟩, _⟩ := H2.st.da
          rw [← e] at hb
          simp [World.cell?, hb] at hc
        have npj : p ≠ mb j := fun e => by
          have hc := H2.c0
          obtain ⟨D, ⟨es, clock, hb, _⟩, _⟩ := (H2.pm j hj).da
          rw [← e] at hb
          simp [World.cell?, hb] at hc
        have npbj : pb ≠ mb j := fun e => by
          have hc := H2.pl j hj
          obtain ⟨D, ⟨es, clock, hb, _⟩, _⟩ := (H2.pm j hj).da
          rw [← e] at hb
          simp [World.cell?, hb] at hc
        have blk : ∀ k, k < w2.heap.size → k ≠ sb → w3.heap[k]? = w2.heap[k]? := fun k hk hn => dg.block k hk (fun e => hn (by injection e))
        have sz3 : w2.heap.size ≤ w3.heap.size := dg.size
        have c1' : w3.cell? ⟨p, 1, none⟩ = some (.slice (some ⟨pb, 0, none⟩) n cap) := (World.cell?_of_block (w := w2) (a := ⟨p, 1, none⟩) (blk p H2.lp nps)).trans H2.c1
        have pl' : w3.cell? ⟨pb, j, none⟩ = some (.map (some (mb j))) := (World.cell?_of_block (w := w2) (a := ⟨pb, j, none⟩) (blk pb H2.lb npbs)).trans pl
        have c0'' : w3.cell? ⟨c, 0, none⟩ = some (.int .i64 s) := (World.cell?_of_block (w := w2) (a := ⟨c, 0, none⟩) (blk c LC2.out ncs)).trans c0'
        have c1'' : w3.cell? ⟨c, 1, none⟩ = some (.int .u32 g) := (World.cell?_of_block (w := w2) (a := ⟨c, 1, none⟩) (blk c LC2.out ncs)).trans (by assumption)
        have pm3 : MapL w3 (mb j) (x.plL n j) := (H2.pm j hj).keep (blk _ (H2.pm j hj).lt (H2.sne j hj))
        obtain ⟨w4, er, emm, et⟩ := (pm3.on (w' := w3.drew) (Below.refl _ _).drew).put Try.underlying64 (k := (s, g)) hk (pl_none HH.out) (v := (d : Int)) (wf_i64 (by omega) (by omega)) NL.out.2
        unfold hV at er
        simp only [] at er
        have eg2 := et.grown
        have blk4 : ∀ k, k < w3.heap.size → k ≠ mb j → w4.heap[k]? = w3.heap[k]? := fun k hk hn => eg2.block k hk (fun e => hn (by injection e))
        have FIN : Hid (WhI w4 p { x with l := Wh.ins x.l ⟨s, g, d⟩ } n pb cap sb mb ∧ Beside (whS p n pb sb mb) w w4) := by
          have sz4 : w3.heap.size ≤ w4.heap.size := eg2.size
          have bp : w4.heap[p]? = w2.heap[p]? := (blk4 p (Nat.lt_of_lt_of_le H2.lp sz3) npj).trans (blk p H2.lp nps)
          have bpb : w4.heap[pb]? = w2.heap[pb]? := (blk4 pb (Nat.lt_of_lt_of_le H2.lb sz3) npbj).trans (blk pb H2.lb npbs)
          have ok2 := H2.ok.put (s := s) (g := g) (n := (d : Int)) hk.g0 hk.g1
          rw [HV.out.1] at ok2
          refine ⟨⟨ok2, Nat.lt_of_lt_of_le H2.lp (Nat.le_trans sz3 sz4), (World.cell?_of_block (w := w2) (a := ⟨p, 0, none⟩) bp).trans H2.c0, (World.frozen?_of_block (w := w2) (a := ⟨p, 0, none⟩) bp).trans H2.f0, (World.cell?_of_block (w := w2) (a := ⟨p, 1, none⟩) bp).trans H2.c1, (World.cell?_of_block (w := w2) (a := ⟨p, 2, none⟩) bp).trans H2.c2, H2.n1, H2.n64,
            Nat.lt_of_lt_of_le H2.lb (Nat.le_trans sz3 sz4), fun i hi => (World.cell?_of_block (w := w2) (a := ⟨pb, i, none⟩) bpb).trans (H2.pl i hi), ?_, fun i hi => ?_, H2.ne, H2.inj, H2.sne⟩, ?_⟩
          · have st4 := dmm.keep (blk4 sb (Nat.lt_of_lt_of_le H2.st.lt sz3) (Ne.symm (H2.sne j hj)))
            have hp := put_st x n ⟨s, g, d⟩
            rw [AT.out] at hp
            exact st4.perm hp
          · by_cases e : i = j
            · subst e
              exact emm.perm (put_pl x n i ⟨s, g, d⟩ AT.out)
            · refine MapL.perm ?_ (put_pl2 x n i ⟨s, g, d⟩ (by rw [AT.out]; exact Ne.symm e))
              exact (H2.pm i hi).keep ((blk4 _ (Nat.lt_of_lt_of_le (H2.pm i hi).lt sz3) (fun e2 => e (H2.inj i j hi hj e2))).trans (blk _ (H2.pm i hi).lt (H2.sne i hi)))
          · refine (Beside.of F2.out.b).trans ?_
            refine ⟨eg2.os.trans dg.os, eg2.tape.trans dg.tape, eg2.output.trans dg.output, Nat.le_trans sz3 sz4, fun k hk hn => ?_⟩
            exact (blk4 k (Nat.lt_of_lt_of_le hk sz3) (fun e => hn (.inr (.inr (.inr ⟨j, hj, e⟩))))).trans (blk k hk (fun e => hn (.inr (.inr (.inl e)))))
        clear dmm dt dg blk sz3 pm3 emm et eg2 blk4 nj ncs npj npbj nps npbs H1 kh f2 H2 b0 b1 q0 kn
        clear F1 F2 LC LC2 B0 B1 CNH
        go_region
        clear c1 c2 c0' dr pl
        go_upto_region 9 with fail
        go_region
        go_wp2
        go_ret
        rw [HV.out.1, HV.out.2]
        exact ⟨rfl, FIN.out.1, FIN.out.2⟩
      · clear t1 t2
        have AT : Hid (x.atN n ⟨s, g, d⟩ = d % n) := by show Nat.max d x.last % n = _; rw [show Nat.max d x.last = d from Nat.max_eq_left hlt]
        have e1 : ¬ (d : Int) < (x.last : Int) := by omega
        have e2 : ¬ d < x.last := by omega
        have ka := wz_at_ H2 d
        have hj : d % n < n := Nat.mod_lt _ H2.n1
        have n64 := H2.n64
        clear hlt
        generalize d % n = j at AT ka hj
        go_upto_region 8 with (go_at_call 32; refine ka.mono ?_; rintro e w3 ⟨rfl, hw3⟩; obtain rfl : w2 = w3 := hw3.symm)
        clear ka e1 e2
        obtain ⟨i1, i2, i3, i4⟩ := place_facts hj n64
        have H2 := H1.out.on f2.b
        have pl := H2.pl _ hj
        have NL : Hid ((x.stL n).length < 1000000 ∧ (x.plL n j).length < 1000000) := ⟨by rw [st_len]; exact Nat.lt_of_le_of_lt HL.out (by decide), Nat.lt_of_le_of_lt (Nat.le_trans (pl_len x n j) HL.out) (by decide)⟩
        obtain ⟨w3, dr, dmm, dt⟩ := (H2.st.on (w' := w2.drew) (Below.refl _ _).drew).put Try.underlying53 (k := (s, g)) hk (st_none HH.out) (v := (j : Int)) (wf_i64 (by omega) (by omega)) NL.out.1
        unfold hV at dr
        simp only [] at dr
        have dg := dt.grown
        have nj : ∀ k, whS p n pb sb mb k → k ≠ c := CNH.out
        have ncs : c ≠ sb := fun e => nj sb (.inr (.inr (.inl rfl))) e.symm
        have nps : p ≠ sb := fun e => by
          have hc := H2.c0
          obtain ⟨D, ⟨es, clock, hb, _⟩, _⟩ := H2.st.da
          rw [← e] at hb
          simp [World.cell?, hb] at hc
        have npbs : pb ≠ sb := fun e => by
          have hc := H2.pl j hj
          obtain ⟨D, ⟨es, clock, hb, _⟩, _⟩ := H2.st.da
          rw [← e] at hb
          simp [World.cell?, hb] at hc
        have npj : p ≠ mb j := fun e => by
          have hc := H2.c0
          obtain ⟨D, ⟨es, clock, hb, _⟩, _⟩ := (H2.pm j hj).da
          rw [← e] at hb
          simp [World.cell?, hb] at hc
        have npbj : pb ≠ mb j := fun e => by
          have hc := H2.pl j hj
          obtain ⟨D, ⟨es, clock, hb, _⟩, _⟩ := (H2.pm j hj).da
          rw [← e] at hb
          simp [World.cell?, hb] at hc
        have blk : ∀ k, k < w2.heap.size → k ≠ sb → w3.heap[k]? = w2.heap[k]? := fun k hk hn => dg.block k hk (fun e => hn (by injection e))
        have sz3 : w2.heap.size ≤ w3.heap.size := dg.size
        have c1' : w3.cell? ⟨p, 1, none⟩ = some (.slice (some ⟨pb, 0, none⟩) n cap) := (World.cell?_of_block (w := w2) (a := ⟨p, 1, none⟩) (blk p H2.lp nps)).trans H2.c1
        have pl' : w3.cell? ⟨pb, j, none⟩ = some (.map (some (mb j))) := (World.cell?_of_block (w := w2) (a := ⟨pb, j, none⟩) (blk pb H2.lb npbs)).trans pl
        have c0'' : w3.cell? ⟨c, 0, none⟩ = some (.int .i64 s) := (World.cell?_of_block (w := w2) (a := ⟨c, 0, none⟩) (blk c LC2.out ncs)).trans c0'
        have c1'' : w3.cell? ⟨c, 1, none⟩ = some (.int .u32 g) := (World.cell?_of_block (w := w2) (a := ⟨c, 1, none⟩) (blk c LC2.out ncs)).trans (by assumption)
        have pm3 : MapL w3 (mb j) (x.plL n j) := (H2.pm j hj).keep (blk _ (H2.pm j hj).lt (H2.sne j hj))
        obtain ⟨w4, er, emm, et⟩ := (pm3.on (w' := w3.drew) (Below.refl _ _).drew).put Try.underlying64 (k := (s, g)) hk (pl_none HH.out) (v := (d : Int)) (wf_i64 (by omega) (by omega)) NL.out.2
        unfold hV at er
        simp only [] at er
        have eg2 := et.grown
        have blk4 : ∀ k, k < w3.heap.size → k ≠ mb j → w4.heap[k]? = w3.heap[k]? := fun k hk hn => eg2.block k hk (fun e => hn (by injection e))
        have FIN : Hid (WhI w4 p { x with l := Wh.ins x.l ⟨s, g, d⟩ } n pb cap sb mb ∧ Beside (whS p n pb sb mb) w w4) := by
          have sz4 : w3.heap.size ≤ w4.heap.size := eg2.size
          have bp : w4.heap[p]? = w2.heap[p]? := (blk4 p (Nat.lt_of_lt_of_le H2.lp sz3) npj).trans (blk p H2.lp nps)
          have bpb : w4.heap[pb]? = w2.heap[pb]? := (blk4 pb (Nat.lt_of_lt_of_le H2.lb sz3) npbj).trans (blk pb H2.lb npbs)
          have ok2 := H2.ok.put (s := s) (g := g) (n := (d : Int)) hk.g0 hk.g1
          rw [HV.out.1] at ok2
          refine ⟨⟨ok2, Nat.lt_of_lt_of_le H2.lp (Nat.le_trans sz3 sz4), (World.cell?_of_block (w := w2) (a := ⟨p, 0, none⟩) bp).trans H2.c0, (World.frozen?_of_block (w := w2) (a := ⟨p, 0, none⟩) bp).trans H2.f0, (World.cell?_of_block (w := w2) (a := ⟨p, 1, none⟩) bp).trans H2.c1, (World.cell?_of_block (w := w2) (a := ⟨p, 2, none⟩) bp).trans H2.c2, H2.n1, H2.n64,
            Nat.lt_of_lt_of_le H2.lb (Nat.le_trans sz3 sz4), fun i hi => (World.cell?_of_block (w := w2) (a := ⟨pb, i, none⟩) bpb).trans (H2.pl i hi), ?_, fun i hi => ?_, H2.ne, H2.inj, H2.sne⟩, ?_⟩
          · have st4 := dmm.keep (blk4 sb (Nat.lt_of_lt_of_le H2.st.lt sz3) (Ne.symm (H2.sne j hj)))
            have hp := put_st x n ⟨s, g, d⟩
            rw [AT.out] at hp
            exact st4.perm hp
          · by_cases e : i = j
            · subst e
              exact emm.perm (put_pl x n i ⟨s, g, d⟩ AT.out)
            · refine MapL.perm ?_ (put_pl2 x n i ⟨s, g, d⟩ (by rw [AT.out]; exact Ne.symm e))
              exact (H2.pm i hi).keep ((blk4 _ (Nat.lt_of_lt_of_le (H2.pm i hi).lt sz3) (fun e2 => e (H2.inj i j hi hj e2))).trans (blk _ (H2.pm i hi).lt (H2.sne i hi)))
          · refine (Beside.of F2.out.b).trans ?_
            refine ⟨eg2.os.trans dg.os, eg2.tape.trans dg.tape, eg2.output.trans dg.output, Nat.le_trans sz3 sz4, fun k hk hn => ?_⟩
            exact (blk4 k (Nat.lt_of_lt_of_le hk sz3) (fun e => hn (.inr (.inr (.inr ⟨j, hj, e⟩))))).trans (blk k hk (fun e => hn (.inr (.inr (.inl e)))))
        clear dmm dt dg blk sz3 pm3 emm et eg2 blk4 nj ncs npj npbj nps npbs H1 kh f2 H2 b0 b1 q0 kn
        clear F1 F2 LC LC2 B0 B1 CNH
        go_region
        clear c1 c2 c0' dr pl
        go_upto_region 9 with fail
        go_region
        go_wp2
        go_ret
        rw [HV.out.1, HV.out.2]
        exact ⟨rfl, FIN.out.1, FIN.out.2⟩
end
end Go.Proofs.Ytmephmjlajaopaa

namespace Go.Proofs.Ytmephmjlajaopaa
set_option linter.unusedVariables false
set_option maxRecDepth 100000
set_option linter.unusedSimpArgs false
open Go.ChangeShapes Go.WideShapes Go.ChangeAt Go.RowKit Go.PlainAid
attribute [local go_sem ↓] Go.wp_at_zero Go.wp_at_succ
section
variable {w w' : World} {p : Nat} {x : Wh} {n pb cap sb : Nat} {mb : Nat → Nat}
/-- (*Wheel).Count. -/
theorem wz_count_ (h : WhI w p x n pb cap sb mb) : Calls Try.prog 23 #[.pointer (some ⟨p, 0, none⟩)] w fun e w' => e = .returned (.int .i64 (x.l.length : Int)) ∧ Below w.heap.size w w' := by
  have kn := wz_none_ h
  have c2 := h.c2
  have hr := (h.st.on (w' := w.drew) (Below.refl _ _).drew).len Try.underlying53 3
  rw [st_len] at hr
  have hr0 := h.st.len Try.underlying53 3
  rw [st_len] at hr0
  clear h
  go_enter Try.func23, Try.ntmps23
  go_wp2_with (go_at_call 27; refine kn.mono ?_; rintro e w2 ⟨rfl, rfl⟩)
  go_ret
  exact ⟨rfl, Below.refl _ _⟩
/-- The loop of Next: M is still to come. -/
structure NextS (w wr : World) (p : Nat) (x : Wh) (n pb cap sb : Nat) (mb : Nat → Nat) (M : List HE) (due : Nat) (ok : Bool) : Prop where
  wh : WhI wr p x n pb cap sb mb
  it : IterL wr sb w.heap.size (x.stL n) M
  below : Below w.heap.size w wr
  some : ok = true → ∃ t ∈ x.l, due = t.d
  none : ok = false → due = 0
  all : ∀ t ∈ x.l, (t.key, ((x.atN n t : Nat) : Int)) ∈ M ∨ ok = true ∧ due ≤ t.d
theorem next_is {wr : World} {due : Nat} {ok : Bool} (h : NextS w wr p x n pb cap sb mb [] due ok) : due = x.nextN ∧ ok = x.nextB := by
  have hall := h.all
  have hs := h.some
  have hn := h.none
  have hst := h.wh.ok.st
  unfold Wh.nextN Wh.nextB
  cases hx : x.l with
  | nil =>
    rw [hx] at hs
    cases ok with
    | false => exact ⟨hn rfl, rfl⟩
    | true => obtain ⟨t, ht, _⟩ := hs rfl; exact absurd ht List.not_mem_nil
  | cons a r =>
    rw [hx] at hall hs hst
    rcases hall a (List.mem_cons_self ..) with h1 | ⟨rfl, h1⟩
    · exact absurd h1 List.not_mem_nil
    · refine ⟨?_, rfl⟩
      obtain ⟨t, ht, e⟩ := hs rfl
      show due = a.d
      rcases List.mem_cons.1 ht with rfl | ht
      · exact e
      · have := Ti.ahead_le ((List.pairwise_cons.1 hst).1 t ht); omega
theorem due_same (ok : x.Ok) {t u : Ti} (ht : t ∈ x.l) (hu : u ∈ x.l) (e : t.key = u.key) : t.d = u.d := by
  have e1 := due_of ok ht
  have e2 := due_of ok hu
  rw [show t.s = u.s from congrArg Prod.fst e, show t.g = u.g from congrArg Prod.snd e] at e1
  exact e1.symm.trans e2
set_option maxHeartbeats 4000000 in
/-- (*Wheel).Next. -/
theorem wz_next_ (h : WhI w p x n pb cap sb mb) : Calls Try.prog 21 #[.pointer (some ⟨p, 0, none⟩)] w fun e w' => e = .returned (.tuple #[.int .i64 (x.nextN : Int), .bool x.nextB]) ∧ Below w.heap.size w w' := by
  have kn := wz_none_ h
  have c2 := h.c2
  obtain ⟨w1, hr, it, hg, hs⟩ := h.st.range Try.underlying53
  have b1 : Below w.heap.size w w1 := (Below.refl _ _).grown hg (Nat.le_refl _) (fun k e => nomatch e)
  have S1 : Hid (NextS w w1 p x n pb cap sb mb (x.stL n) 0 false) := ⟨h.on b1, it, b1, fun e => (Bool.noConfusion e), fun _ => rfl, fun t ht => .inl (st_mem ht)⟩
  clear it hg hs b1
  have H := Lib.hid h
  clear h
  go_enter Try.func21, Try.ntmps21
  go_upto_region 4 with (go_at_call 27; refine kn.mono ?_; rintro e w2 ⟨rfl, hw2⟩; obtain rfl : w = w2 := hw2.symm)
  clear hr kn c2
  go_wp2_with fail
  go_loopg [2, 3] (x.stL n).length (fun k v2 v3 wr => ∃ (M : List HE) (due : Nat) (ok : Bool), M.length ≤ k ∧ v2 = .int .i64 (due : Int) ∧ v3 = .bool ok ∧ Hid (NextS w wr p x n pb cap sb mb M due ok))
  case atStart => exact ⟨_, 0, false, Nat.le_refl _, rfl, rfl, S1⟩
  case round =>
    clear S1
    obtain ⟨M, due, ok, hk, rfl, rfl, HO⟩ := hrel
    rcases HO.out.it.next 0 with ⟨rfl, hr⟩ | ⟨key, u, M', w2, hp, hm, hr, it2, hg, hs, hen⟩
    · have e := next_is HO.out
      rw [e.1, e.2] at *
      have HE := Lib.hid HO.out.below
      clear HO
      go_wp2
      go_ret2
      exact ⟨rfl, HE.out⟩
    · obtain ⟨t, ht, e⟩ := List.mem_map.1 hm
      obtain ⟨ks, kg⟩ := key
      injection e with ek eu
      subst eu
      unfold hV at hr hen
      simp only [] at hr hen
      have hl := hp.length_eq
      rw [List.length_cons] at hl
      have lw : w.heap.size < wr.heap.size := Nat.lt_of_lt_of_le it2.lt.2 (Nat.le_of_eq hs)
      have b12 : Below wr.heap.size wr w2 ∨ True := .inr trivial
      have ls := H.out.lt
      have h2 : WhI w2 p x n pb cap sb mb := HO.out.wh.keep (Nat.le_of_eq hs.symm) (fun k hk => hg.block k (HO.out.wh.lt k hk) (fun e => by injection e with e; have := ls k hk; omega))
      have b2 : Below w.heap.size w w2 := HO.out.below.grown hg HO.out.below.size (fun k e => by injection e with e; omega)
      have hk2 : M'.length + 1 ≤ gk := by omega
      have f1 : Below w2.heap.size w2 (w2.alloc (.cells #[.int .i64 ks, .int .u32 kg] 34)) := (Below.refl _ _).alloc (Nat.le_refl _) _
      have c0 : (w2.alloc (.cells #[.int .i64 ks, .int .u32 kg] 34)).cell? ⟨w2.heap.size, 0, none⟩ = some (.int .i64 ks) := World.cell?_alloc_mark w2 #[.int .i64 ks, .int .u32 kg] 34 (0, 0) 0
      have c1 : (w2.alloc (.cells #[.int .i64 ks, .int .u32 kg] 34)).cell? ⟨w2.heap.size, 1, none⟩ = some (.int .u32 kg) := World.cell?_alloc_mark w2 #[.int .i64 ks, .int .u32 kg] 34 (0, 0) 1
      have h3 := h2.on f1
      have b3 : Below w.heap.size w (w2.alloc (.cells #[.int .i64 ks, .int .u32 kg] 34)) := b2.trans (f1.mono b2.size)
      have i3 := it2.on f1
      have NX : ∀ (d' : Nat) (wf : World), WhI wf p x n pb cap sb mb → IterL wf sb w.heap.size (x.stL n) M' → Below w.heap.size w wf → (ok = true ∧ d' = due ∧ due ≤ t.d ∨ d' = t.d ∧ (ok = true → t.d ≤ due)) → NextS w wf p x n pb cap sb mb M' d' true := fun d' wf a b c hd => by
        refine ⟨a, b, c, fun _ => ?_, fun e => Bool.noConfusion e, fun u hu => ?_⟩
        · rcases hd with ⟨e1, e2, _⟩ | ⟨e, _⟩
          · rw [e2]; exact HO.out.some e1
          · exact ⟨t, ht, e⟩
        · rcases HO.out.all u hu with h1 | ⟨h1, h2⟩
          · rcases List.mem_cons.1 (hp.mem_iff.1 h1) with h1 | h1
            · injection h1 with h1 _
              have hd2 := due_same h2.ok ht hu (ek.trans h1.symm)
              refine .inr ⟨rfl, ?_⟩
              rcases hd with ⟨_, e, h⟩ | ⟨e, _⟩ <;> omega
            · exact .inl h1
          · refine .inr ⟨rfl, ?_⟩
            rcases hd with ⟨_, e, h⟩ | ⟨e, h⟩
            · omega
            · have := h h1; omega
      have NXH := Lib.hid NX
      have BZ := Lib.hid (And.intro i3 b3)
      have hj := atN_lt (x := x) h3.n1 t
      have LL := ((h3.pm _ hj).on (w' := (w2.alloc (.cells #[.int .i64 ks, .int .u32 kg] 34)).drew) (Below.refl _ _).drew).look Try.underlying64 (pl_mem ht)
      rw [ek] at LL
      unfold hV at LL
      simp only [] at LL
      have H3 := Lib.hid h3
      clear b12 ls h2 b2 f1 NX h3 b3 i3 it2 hg hs hp hm lw hl HO
      go_upto_region 6 with fail
      generalize w2.alloc (.cells #[.int .i64 ks, .int .u32 kg] 34) = w3 at c0 c1 LL BZ H3 ⊢
      generalize w2.heap.size = c at c0 c1 ⊢
      have q1 := H3.out.c1
      obtain ⟨i1, i2, i3, i4⟩ := place_facts hj H3.out.n64
      have pl := H3.out.pl _ hj
      clear hr hen
      generalize x.atN n t = j at i1 i2 i3 i4 pl LL hj
      have DR := Lib.hid (H3.out.on (w' := w3.drew) (Below.refl _ _).drew)
      have IR := Lib.hid (BZ.out.1.on (w' := w3.drew) (Below.refl _ _).drew)
      have BR := Lib.hid (BZ.out.2.drew)
      go_region
      clear q1 pl LL c0 c1
      cases ok with
      | false =>
        have FIN := Lib.hid (NXH.out t.d w3.drew DR.out IR.out BR.out (.inr ⟨rfl, fun e => Bool.noConfusion e⟩))
        clear NXH DR IR BR H3 BZ
        go_wp2
        go_roundg (M'.length)
        case measure => omega
        case rel => exact ⟨M', t.d, true, Nat.le_refl _, rfl, rfl, FIN⟩
      | true =>
        by_cases hlt : t.d < due
        · have t1 : decide ((t.d : Int) < (due : Int)) = true := decide_eq_true (by omega)
          have t2 : decide (t.d < due) = true := decide_eq_true hlt
          have FIN := Lib.hid (NXH.out t.d w3.drew DR.out IR.out BR.out (.inr ⟨rfl, fun _ => Nat.le_of_lt hlt⟩))
          clear NXH DR IR BR H3 BZ hlt
          go_wp2
          go_roundg (M'.length)
          case measure => omega
          case rel => exact ⟨M', t.d, true, Nat.le_refl _, rfl, rfl, FIN⟩
        · have t1 : decide ((t.d : Int) < (due : Int)) = false := decide_eq_false (by omega)
          have t2 : decide (t.d < due) = false := decide_eq_false hlt
          have FIN := Lib.hid (NXH.out due w3.drew DR.out IR.out BR.out (.inl ⟨rfl, rfl, Nat.le_of_not_lt hlt⟩))
          clear NXH DR IR BR H3 BZ hlt
          go_wp2
          go_roundg (M'.length)
          case measure => omega
          case rel => exact ⟨M', due, true, Nat.le_refl _, rfl, rfl, FIN⟩
end
end Go.Proofs.Ytmephmjlajaopaa

namespace Go.Proofs.Ytmephmjlajaopaa
set_option linter.unusedVariables false
set_option maxRecDepth 100000
set_option linter.unusedSimpArgs false
open Go.ChangeShapes Go.WideShapes Go.ChangeAt Go.RowKit Go.PlainAid
attribute [local go_sem ↓] Go.wp_at_zero Go.wp_at_succ
section
/-- New, of a size that it does not take. -/
theorem wz_newE_ (n : Int) (w : World) (h : n < 1 ∨ 64 < n) : Calls Try.prog 9 #[.int .i64 n] w fun e w' => e = .returned (.tuple #[.pointer none, .int .i64 2]) ∧ Below w.heap.size w w' := by
  by_cases h1 : n < 1
  · have t1 : decide (n < 1) = true := decide_eq_true h1
    clear h
    go_enter Try.func9, Try.ntmps9
    go_wp2
    go_ret2
    exact ⟨rfl, Below.refl _ _⟩
  · have t1 : decide (n < 1) = false := decide_eq_false h1
    have t2 : decide (64 < n) = true := decide_eq_true (by omega)
    clear h
    go_enter Try.func9, Try.ntmps9
    go_wp2
    go_ret2
    exact ⟨rfl, Below.refl _ _⟩
/-- The loop of New: so many places have been laid. -/
structure NewS (w wr : World) (i : Nat) (v : Value) (L : List Nat) : Prop where
  len : L.length = i
  nd : L.Pairwise fun a b => a ≠ b
  new : ∀ b ∈ L, w.heap.size + 2 ≤ b
  maps : ∀ b ∈ L, MapL wr b []
  sb : MapL wr w.heap.size []
  own : eltM.Own wr (w.heap.size + 2) v (L.map some)
  lp : w.heap.size + 1 < wr.heap.size
  c0 : wr.cell? ⟨w.heap.size + 1, 0, none⟩ = some (.int .i64 0)
  c1 : wr.cell? ⟨w.heap.size + 1, 1, none⟩ = some v
  c2 : wr.cell? ⟨w.heap.size + 1, 2, none⟩ = some (.map (some w.heap.size))
  f0 : wr.frozen? ⟨w.heap.size + 1, 0, none⟩ = false
  f1 : wr.frozen? ⟨w.heap.size + 1, 1, none⟩ = false
  below : Below w.heap.size w wr
theorem NewS.start (w : World) : NewS w ((w.alloc (.map #[] 0)).alloc (.cells #[.int .i64 0, .slice none 0 0, .map (some w.heap.size)] 55)) 0 (.slice none 0 0) [] := by
  have e : (w.alloc (.map #[] 0)).heap.size = w.heap.size + 1 := by simp
  have c := fun j => World.cell?_alloc_mark (w.alloc (.map #[] 0)) #[.int .i64 0, .slice none 0 0, .map (some w.heap.size)] 55 (0, 0) j
  have f := fun j => World.frozen?_alloc_mark (w.alloc (.map #[] 0)) #[.int .i64 0, .slice none 0 0, .map (some w.heap.size)] 55 0 0 j
  rw [e] at c f
  refine ⟨rfl, List.Pairwise.nil, fun b hb => absurd hb List.not_mem_nil, fun b hb => absurd hb List.not_mem_nil, ?_, Elt.Own.nil _ _, by simp, c 0, c 1, c 2, f 0, f 1, ?_⟩
  · exact (MapL.made w).on ((Below.refl _ _).alloc (Nat.le_refl _) _)
  · exact ((Below.refl _ _).alloc (Nat.le_refl _) _).alloc (by simp) _
theorem own_not_map {w : World} {B : Nat} {v : Value} {l : List (Option Nat)} (h : eltM.Own w B v l) {b : Nat} {L : List HE} (hm : MapL w b L) : v.ownBlock ≠ some b := fun e => by
  rcases h.2 with ⟨h0, _⟩ | ⟨g, c, cur, rfl, _, hb, _⟩
  · rw [h0] at e; cases e
  · have hg : g = b := by simpa [Value.ownBlock] using e
    obtain ⟨D, ⟨es, clock, hb2, _⟩, _⟩ := hm.da
    rw [hg, hb2] at hb
    simp at hb
theorem NewS.next {w wr w' : World} {i : Nat} {v v' : Value} {L : List Nat} {nb : Nat} (h : NewS w wr i v L) (hn : nb = wr.heap.size) (hm : MapL w' nb []) (own : eltM.Own w' (w.heap.size + 2) v' ((L ++ [nb]).map some)) (hs : wr.heap.size ≤ w'.heap.size)
    (hb : ∀ k, k < wr.heap.size → v.ownBlock ≠ some k → w'.heap[k]? = wr.heap[k]?) (below : Below w.heap.size w w') : NewS w (w'.setCell ⟨w.heap.size + 1, 1, none⟩ v') (i + 1) v' (L ++ [nb]) := by
  have lp := h.lp
  have np : v.ownBlock ≠ some (w.heap.size + 1) := fun e => by have := (h.own.lt _ e).1; omega
  have keep : ∀ k, k ≠ w.heap.size + 1 → (w'.setCell ⟨w.heap.size + 1, 1, none⟩ v').heap[k]? = w'.heap[k]? := fun k hk => Below.heap_setCell _ _ _ _ hk
  have bp := hb _ lp np
  have nob : ∀ g, v'.ownBlock = some g → g ≠ w.heap.size + 1 := fun g e => by have := (own.lt g e).1; omega
  have nbp : ∀ b ∈ L, b ≠ w.heap.size + 1 := fun b hb => by have := h.new b hb; omega
  have sbk := h.sb.keep ((keep _ (by omega)).trans (hb _ h.sb.lt (own_not_map h.own h.sb)))
  refine ⟨by rw [List.length_append, h.len]; rfl, ?_, fun b hb2 => ?_, fun b hb2 => ?_, sbk, own.keep fun g hg => keep g (nob g hg), by simp; omega, ?_, ?_, ?_, ?_, ?_, ?_⟩
  · rw [List.pairwise_append]
    refine ⟨h.nd, List.pairwise_singleton _ _, fun a ha b hb2 e => ?_⟩
    rw [List.mem_singleton.1 hb2] at e
    have := (h.maps a ha).lt
    omega
  · rcases List.mem_append.1 hb2 with hb2 | hb2
    · exact h.new b hb2
    · rw [List.mem_singleton.1 hb2]; omega
  · rcases List.mem_append.1 hb2 with hb2 | hb2
    · exact (h.maps b hb2).keep ((keep b (nbp b hb2)).trans (hb b (h.maps b hb2).lt (own_not_map h.own (h.maps b hb2))))
    · rw [List.mem_singleton.1 hb2]
      exact hm.keep (keep nb (by omega))
  · rw [World.cell?_setCell_other _ _ _ _ (by simp)]; exact (World.cell?_of_block (w := wr) (a := ⟨w.heap.size + 1, 0, none⟩) bp).trans h.c0
  · exact World.cell?_setCell_same _ _ _ ((World.cell?_of_block (w := wr) (a := ⟨w.heap.size + 1, 1, none⟩) bp).trans h.c1)
  · rw [World.cell?_setCell_other _ _ _ _ (by simp)]; exact (World.cell?_of_block (w := wr) (a := ⟨w.heap.size + 1, 2, none⟩) bp).trans h.c2
  · rw [World.frozen?_setCell]; exact (World.frozen?_of_block (w := wr) (a := ⟨w.heap.size + 1, 0, none⟩) bp).trans h.f0
  · rw [World.frozen?_setCell]; exact (World.frozen?_of_block (w := wr) (a := ⟨w.heap.size + 1, 1, none⟩) bp).trans h.f1
  · exact below.setCell (Nat.le_succ _) _
theorem NewS.done {w wr : World} {n : Nat} {v : Value} {L : List Nat} (h : NewS w wr n v L) (h1 : 1 ≤ n) (h64 : n ≤ 64) : ∃ (pb cap : Nat) (mb : Nat → Nat), WhI wr (w.heap.size + 1) Wh.new n pb cap w.heap.size mb ∧ ∀ k, whS (w.heap.size + 1) n pb w.heap.size mb k → w.heap.size ≤ k := by
  have ln := h.len
  rcases h.own.2 with ⟨_, h0⟩ | ⟨g, c, cur, rfl, hg, hb, hrest⟩
  · rw [List.length_map] at h0; omega
  · obtain ⟨a, c2, e, sl, _⟩ := h.own.sl
    injection e with e1 e2 e3
    rw [List.length_map, ln] at e2
    rw [← e1] at sl
    have c1 := h.c1
    have LM : (L.map some).length = n := by rw [List.length_map, ln]
    rw [LM] at c1
    have lt : g < wr.heap.size := (h.own.lt g rfl).2
    have mem : ∀ i, i < n → L.getD i 0 ∈ L := fun i hi => by rw [List.getD_eq_getElem?_getD, List.getElem?_eq_getElem (by rw [ln]; exact hi)]; exact List.getElem_mem _
    refine ⟨g, c, fun i => L.getD i 0, ⟨Wh.Ok.new, h.lp, h.c0, h.f0, c1, h.c2, h1, h64, lt, fun i hi => ?_, h.sb, fun i hi => h.maps _ (mem i hi), ?_, fun i j hi hj e => ?_, fun i hi e => ?_⟩, fun k hk => ?_⟩
    · obtain ⟨b, off, e5, hb2, hcell⟩ := sl.row.at (i := i) (by rw [LM]; exact hi)
      injection e5 with e5
      injection e5 with e6 e7
      have := hcell 0 (.map (some (L.getD i 0))) (by decide) (by
        have : (L.map some).getD i none = some (L.getD i 0) := by
          rw [List.getD_eq_getElem?_getD, List.getD_eq_getElem?_getD, List.getElem?_map, List.getElem?_eq_getElem (by rw [ln]; exact hi)]; rfl
        show ([Value.map ((L.map some).getD i none)] : List Value)[0]? = _
        rw [this]; rfl)
      rw [← e6, ← e7] at this
      simpa [eltM] using this
    · omega
    · refine Classical.byContradiction fun hne => ?_
      have hi' : i < L.length := by rw [ln]; exact hi
      have hj' : j < L.length := by rw [ln]; exact hj
      simp only [List.getD_eq_getElem?_getD, List.getElem?_eq_getElem hi', List.getElem?_eq_getElem hj', Option.getD_some] at e
      rcases Nat.lt_or_gt_of_ne hne with hlt | hlt
      · exact List.pairwise_iff_getElem.1 h.nd i j hi' hj' hlt e
      · exact List.pairwise_iff_getElem.1 h.nd j i hj' hi' hlt e.symm
    · have := h.new _ (mem i hi); omega
    · rcases hk with rfl | rfl | rfl | ⟨i, hi, rfl⟩
      · omega
      · omega
      · exact Nat.le_refl _
      · have := h.new _ (mem i hi); show w.heap.size ≤ L.getD i 0; omega
set_option maxHeartbeats 4000000 in
/-- New. -/
theorem wz_new_ (n : Nat) (w : World) (h1 : 1 ≤ n) (h64 : n ≤ 64) : Calls Try.prog 9 #[.int .i64 (n : Int)] w fun e w' => ∃ (p pb cap sb : Nat) (mb : Nat → Nat), e = .returned (.tuple #[.pointer (some ⟨p, 0, none⟩), .int .i64 0]) ∧ Below w.heap.size w w' ∧ (∀ k, whS p n pb sb mb k → w.heap.size ≤ k) ∧ WhI w' p Wh.new n pb cap sb mb := by
  have t1 : decide ((n : Int) < 1) = false := decide_eq_false (by omega)
  have t1n : decide (n < 1) = false := decide_eq_false (by omega)
  have t2 : decide ((64 : Int) < (n : Int)) = false := decide_eq_false (by omega)
  have t2n : decide (64 < n) = false := decide_eq_false (by omega)
  have hmm := @run_makeMap Try.prog
  have HN := Lib.hid (And.intro h1 h64)
  have ST := Lib.hid (NewS.start w)
  clear h1 h64
  go_enter Try.func9, Try.ntmps9
  go_upto_region 5 with fail
  clear t1 t1n t2 t2n
  go_loopw [14] (fun v14 wr => ∃ (i : Nat) (v : Value) (L : List Nat), i ≤ n ∧ v14 = .int .i64 (i : Int) ∧ Hid (NewS w wr i v L)) (fun v14 _ => n - (intOf v14).toNat)
  case atStart => exact ⟨0, _, [], Nat.zero_le _, rfl, ST⟩
  case round =>
    clear ST
    obtain ⟨i, v, L, hi, rfl, HO⟩ := hrel
    by_cases hlt : i < n
    · have HI := Lib.hid hlt
      have u1 : decide ((i : Int) < (n : Int)) = true := decide_eq_true (by omega)
      have u2 : decide (i < n) = true := decide_eq_true hlt
      have i64 : i < 64 := by have := HN.out.2; omega
      have lp := HO.out.lp
      have ln := HO.out.len
      have own1 := (HO.out.own.alloc (.map #[] 0)).alloc (.cells #[.map (some wr.heap.size)] 64)
      obtain ⟨v', w', hrun, hown, hgrow, hnew⟩ := own1.append 52 (Elt.Sl.box (wr.alloc (.map #[] 0)) (some wr.heap.size) 64 #[.map (some wr.heap.size)] rfl)
        (by rw [List.length_map, ln]; show (i + 1) * 8 ≤ _; omega) (by rw [List.length_map, ln]; show i + 1 ≤ 9223372036854775807; omega) (by simp; omega)
      have esz : (wr.alloc (.map #[] 0)).heap.size = wr.heap.size + 1 := by simp
      rw [esz] at hrun
      have RUN := Lib.hid hrun
      have sz2 : ((wr.alloc (.map #[] 0)).alloc (.cells #[.map (some wr.heap.size)] 64)).heap.size = wr.heap.size + 2 := by simp
      have gs := hgrow.size
      have blk : ∀ k, k < wr.heap.size + 1 → v.ownBlock ≠ some k → w'.heap[k]? = (wr.alloc (.map #[] 0)).heap[k]? := fun k hk hne => (hgrow.block k (by omega) (fun e => hne e.symm)).trans (((Below.refl (wr.alloc (.map #[] 0)).heap.size _).alloc (Nat.le_refl _) _).block k (by omega))
      have vlt : ∀ g, v.ownBlock = some g → g < wr.heap.size := fun g e => (HO.out.own.lt g e).2
      have BN : Below w.heap.size w w' := ((HO.out.below.alloc HO.out.below.size (.map #[] 0)).alloc (by simp; omega) (.cells #[.map (some wr.heap.size)] 64)).grown hgrow (by omega) (fun g e => by have := (HO.out.own.lt g e).1; omega)
      have mnew : MapL w' wr.heap.size [] := (MapL.made wr).keep (blk _ (Nat.lt_succ_self _) (fun e => by have := vlt _ e; omega))
      have kb : ∀ k, k < wr.heap.size → v.ownBlock ≠ some k → w'.heap[k]? = wr.heap[k]? := fun k hk hne => (blk k (by omega) hne).trans (((Below.refl wr.heap.size wr).alloc (Nat.le_refl _) _).block k hk)
      have np : v.ownBlock ≠ some (w.heap.size + 1) := fun e => by have := (HO.out.own.lt _ e).1; omega
      have FIN : Hid (NewS w (w'.setCell ⟨w.heap.size + 1, 1, none⟩ v') (i + 1) v' (L ++ [wr.heap.size])) := HO.out.next rfl mnew (by rw [List.map_append]; exact hown) (by omega) kb BN
      have c1 := HO.out.c1
      have f1 := HO.out.f1
      have d1 : w'.cell? ⟨w.heap.size + 1, 1, none⟩ = some v := (World.cell?_of_block (w := wr) (a := ⟨w.heap.size + 1, 1, none⟩) (kb _ lp np)).trans c1
      have e1 : w'.frozen? ⟨w.heap.size + 1, 1, none⟩ = false := (World.frozen?_of_block (w := wr) (a := ⟨w.heap.size + 1, 1, none⟩) (kb _ lp np)).trans f1
      obtain ⟨a5, c5, e5, _, _⟩ := HO.out.own.sl
      obtain ⟨a6, c6, e6, _, _⟩ := hown.sl
      clear hrun hown hgrow hnew own1 esz sz2 gs blk vlt BN mnew kb np HO ln hlt hi
      subst e5
      subst e6
      generalize (List.map some L).length = n5 at RUN c1 d1 ⊢
      generalize (List.map some L ++ [some wr.heap.size]).length = n6 at RUN FIN
      go_wp2_with (at_builtin; refine Lib.wpList_append_run _ rfl _ _ 52 52 rfl _ _ rfl rfl _ _ RUN.out ?_)
      go_roundw
      case rel => exact ⟨i + 1, _, _, HI.out, by go_num, FIN⟩
      case measure =>
        have := HI.out
        simp [intOf]
        omega
    · obtain rfl : i = n := Nat.le_antisymm hi (Nat.le_of_not_lt hlt)
      have u1 : decide ((i : Int) < (i : Int)) = false := by simp
      have FIN := Lib.hid (HO.out.done HN.out.1 HN.out.2)
      have BEL := Lib.hid HO.out.below
      clear HO hlt hi
      go_wp2
      go_ret2
      obtain ⟨pb, cap, mb, hw, hk⟩ := FIN.out
      exact ⟨_, pb, cap, _, mb, rfl, BEL.out, hk, hw⟩
end
end Go.Proofs.Ytmephmjlajaopaa
