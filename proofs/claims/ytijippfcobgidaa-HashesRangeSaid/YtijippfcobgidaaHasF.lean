/- Contracts of package hashes: number (a range over a function), Of, Both. -/
import Derived.Test.YtijippfcobgidaaHasE
namespace Go.Proofs.Ytijippfcobgidaa
set_option linter.unusedVariables false
set_option linter.unusedSimpArgs false
open Go.ChangeShapes Go.WideShapes Go.ChangeAt Go.RowKit Go.PlainAid Go.Shelf
theorem step32 (n x : Nat) : bits .xor .u32 (((n : Int) + (x : Int) + ((n : Int) + (x : Int)) % 4294967296 * 1024) % 4294967296) (((n : Int) + (x : Int) + ((n : Int) + (x : Int)) % 4294967296 * 1024) % 4294967296 / 64) = ((haStep n x : Nat) : Int) := by
  have e : ((n : Int) + (x : Int) + ((n : Int) + (x : Int)) % 4294967296 * 1024) % 4294967296 = ((haB (haA n x) : Nat) : Int) := by unfold haB haA; omega
  have l := haB_lt (haA n x)
  rw [e, show ((haB (haA n x) : Nat) : Int) / 64 = ((haB (haA n x) / 64 : Nat) : Int) by omega, bits_xor_u32_nat _ _ l (by omega)]
  rfl
section
attribute [local go_sem] Oper.semAt_some
set_option maxHeartbeats 4000000 in
set_option maxRecDepth 100000 in
theorem num12_ (pr sa sp da dp : Nat) (w : World) (h0 : pr < 256) (h1 : sa < 4294967296) (h2 : sp < 65536) (h3 : da < 4294967296) (h4 : dp < 65536) :
    Calls Try.prog 12 #[.agg #[.int .u8 (pr : Int), .int .u32 (sa : Int), .int .u16 (sp : Int), .int .u32 (da : Int), .int .u16 (dp : Int)]] w fun e w' => e = .returned (.int .u32 (haT pr sa sp da dp : Int)) ∧ Below w.heap.size w w' := by
  refine (callsIn_wide (n := 9)).1 ?_
  refine callsIn_of_wp_marks Try.func12 rfl trivial ?_ rfl
  simp only [Try.ntmps12, List.size_toArray, List.length_cons, List.length_nil, Nat.reduceAdd, Nat.reduceSub, Array.replicate_succ, Array.replicate_zero, List.push_toArray, List.append_toArray, List.nil_append, List.cons_append]
  gi_wp2_with fail
  refine ⟨trivial, ?_⟩
  refine (callsIn_wide.2 (each12_ _ _ _ _ _ _)).mono ?_
  rintro e w' ⟨rfl, rfl⟩
  gi_wp2
  have hs : ((w.alloc (.cells #[.int .u8 (pr : Int), .int .u32 (sa : Int), .int .u16 (sp : Int), .int .u32 (da : Int), .int .u16 (dp : Int)] 28)).alloc (.cells #[.int .u32 0] 22)).heap.size = w.heap.size + 1 + 1 := by simp
  have hBx := Box5.make ((w.alloc (.cells #[.int .u8 (pr : Int), .int .u32 (sa : Int), .int .u16 (sp : Int), .int .u32 (da : Int), .int .u16 (dp : Int)] 28)).alloc (.cells #[.int .u32 0] 22)) (.int .u8 (pr : Int)) (.int .u32 (sa : Int)) (.int .u16 (sp : Int)) (.int .u32 (da : Int)) (.int .u16 (dp : Int)) 28
  rw [hs] at hBx
  have bN : (((w.alloc (.cells #[.int .u8 (pr : Int), .int .u32 (sa : Int), .int .u16 (sp : Int), .int .u32 (da : Int), .int .u16 (dp : Int)] 28)).alloc (.cells #[.int .u32 0] 22)).alloc (.cells #[.int .u8 (pr : Int), .int .u32 (sa : Int), .int .u16 (sp : Int), .int .u32 (da : Int), .int .u16 (dp : Int)] 28)).cell? ⟨w.heap.size + 1, 0, none⟩ = some (.int .u32 0) := by simp [go_sem]
  have fN : (((w.alloc (.cells #[.int .u8 (pr : Int), .int .u32 (sa : Int), .int .u16 (sp : Int), .int .u32 (da : Int), .int .u16 (dp : Int)] 28)).alloc (.cells #[.int .u32 0] 22)).alloc (.cells #[.int .u8 (pr : Int), .int .u32 (sa : Int), .int .u16 (sp : Int), .int .u32 (da : Int), .int .u16 (dp : Int)] 28)).frozen? ⟨w.heap.size + 1, 0, none⟩ = false := by simp [go_sem]
  have hB0 : Below w.heap.size w (((w.alloc (.cells #[.int .u8 (pr : Int), .int .u32 (sa : Int), .int .u16 (sp : Int), .int .u32 (da : Int), .int .u16 (dp : Int)] 28)).alloc (.cells #[.int .u32 0] 22)).alloc (.cells #[.int .u8 (pr : Int), .int .u32 (sa : Int), .int .u16 (sp : Int), .int .u32 (da : Int), .int .u16 (dp : Int)] 28)) := (((Below.refl _ w).alloc (Nat.le_refl _) _).alloc (by simp) _).alloc (by simp; omega) _
  have hz : (((w.alloc (.cells #[.int .u8 (pr : Int), .int .u32 (sa : Int), .int .u16 (sp : Int), .int .u32 (da : Int), .int .u16 (dp : Int)] 28)).alloc (.cells #[.int .u32 0] 22)).alloc (.cells #[.int .u8 (pr : Int), .int .u32 (sa : Int), .int .u16 (sp : Int), .int .u32 (da : Int), .int .u16 (dp : Int)] 28)).heap.size = w.heap.size + 3 := by simp
  obtain ⟨W0, hW0⟩ : ∃ W0, W0 = ((w.alloc (.cells #[.int .u8 (pr : Int), .int .u32 (sa : Int), .int .u16 (sp : Int), .int .u32 (da : Int), .int .u16 (dp : Int)] 28)).alloc (.cells #[.int .u32 0] 22)).alloc (.cells #[.int .u8 (pr : Int), .int .u32 (sa : Int), .int .u16 (sp : Int), .int .u32 (da : Int), .int .u16 (dp : Int)] 28) := ⟨_, rfl⟩
  rw [← hW0] at hBx bN fN hB0 hz ⊢
  clear hW0 hs
  refine wpIn_rangeFunc_ownF rfl (by omega) (gf := 19) (lb := #[.pointer (some ⟨w.heap.size + 1 + 1, 0, none⟩)]) rfl trivial (enters_of Try.func19 (by kernel_rfl) rfl)
    (stops12_ 8 (by omega) (w.heap.size + 1) (w.heap.size + 1 + 1) pr sa sp da dp h0 h1 h2 h3 h4 (by omega) W0 (by omega) hBx) (fun h k => h.trans k) (fun W l o o' _ hl ho _ => KeptBut.putObj W l o o' hl ho) (Below.refl _ _) (fun _ => rfl)
    (fun pre W => (W.cell? ⟨w.heap.size + 1, 0, none⟩ = some (.int .u32 ((pre.foldl haStep 0 : Nat) : Int)) ∧ W.frozen? ⟨w.heap.size + 1, 0, none⟩ = false) ∧ Below w.heap.size w W)
    (fun _ _ _ => False)
    (OwnFrom.and (Own.from (fun s A B row hs hg hr => ⟨cell_kept hs.1 hg hr, (frozen_kept hs.1 hg hr).trans hs.2⟩) _) (ownFrom_below (Nat.le_refl _) (by omega)))
    (fun _ _ _ _ _ hs _ _ => hs)
    ⟨⟨bN, fN⟩, hB0⟩
    (fun x => { tmps := #[.agg #[.int .u8 (pr : Int), .int .u32 (sa : Int), .int .u16 (sp : Int), .int .u32 (da : Int), .int .u16 (dp : Int)], .pointer (some ⟨w.heap.size, 0, none⟩), .int .u32 0, .pointer (some ⟨w.heap.size + 1, 0, none⟩), .int .u8 (x : Int), .agg #[.int .u8 (pr : Int), .int .u32 (sa : Int), .int .u16 (sp : Int), .int .u32 (da : Int), .int .u16 (dp : Int)], .func (.func 19) #[] #[.pointer (some ⟨w.heap.size + 1 + 1, 0, none⟩)], .int .u8 (x : Int), undef, undef, undef, undef, undef, undef, undef, undef, undef, undef, undef, undef, undef, undef, undef, undef, undef, undef, undef, undef, undef, undef, undef, undef, undef], defers := [] }) ?assign ?body ?done ?stop
  case assign =>
    intro l x W K hK
    gi_wp2
    exact hK
  case body =>
    rintro l pre x W ⟨⟨hc, hf⟩, hB⟩ _
    have HS := Lib.hid (step32 (pre.foldl haStep 0) x)
    have HF : Hid (((pre ++ [x]).foldl haStep 0) = haStep (pre.foldl haStep 0) x) := by show _ = _; rw [List.foldl_append]; rfl
    generalize pre.foldl haStep 0 = n at *
    gi_wp2
    rw [HS.out, ← HF.out]
    have c1 : ∀ v u : Value, (((W.setCell ⟨w.heap.size + 1, 0, none⟩ v).setCell ⟨w.heap.size + 1, 0, none⟩ u).cell? ⟨w.heap.size + 1, 0, none⟩).isSome = true := fun v u => by rw [World.cell?_setCell_same' _ _ _ (by rw [World.cell?_setCell_same' _ _ _ (by rw [hc]; rfl)]; rfl)]; rfl
    exact ⟨((KeepsOthers.setCell _ _ _).trans (KeepsOthers.setCell _ _ _)).trans (KeepsOthers.setCell _ _ _), ((KeptBut.setCell _ _).trans (KeptBut.setCell _ _)).trans (KeptBut.setCell _ _),
      ⟨World.cell?_setCell_same' _ _ _ (c1 _ _), by rw [World.frozen?_setCell, World.frozen?_setCell, World.frozen?_setCell]; exact hf⟩,
      ((hB.setCell (p := ⟨w.heap.size + 1, 0, none⟩) (by simp) _).setCell (p := ⟨w.heap.size + 1, 0, none⟩) (by simp) _).setCell (p := ⟨w.heap.size + 1, 0, none⟩) (by simp) _⟩
  case done =>
    rintro D ys W hD rfl ⟨⟨hc, hf⟩, hB⟩ hK
    have HN : Hid (haFin ((haBytes pr sa sp da dp).foldl haStep 0) = haT pr sa sp da dp) := rfl
    generalize (haBytes pr sa sp da dp).foldl haStep 0 = n at *
    have d1 : ((n : Int) + (n : Int) * 8) % 4294967296 = ((haD n : Nat) : Int) := by unfold haD; omega
    have d0 : ((n : Int) + (n : Int) * 8 % 4294967296) % 4294967296 = ((haD n : Nat) : Int) := by unfold haD; omega
    have l1 := haD_lt n
    have l2 : haD n / 2048 < 4294967296 := by omega
    have x0 : ((haD n : Nat) : Int) / 2048 = ((haD n / 2048 : Nat) : Int) := by omega
    have x1 : bits .xor .u32 ((haD n : Nat) : Int) ((haD n / 2048 : Nat) : Int) = ((haE (haD n) : Nat) : Int) := bits_xor_u32_nat _ _ l1 l2
    have f1 : (((haE (haD n) : Nat) : Int) + ((haE (haD n) : Nat) : Int) * 32768) % 4294967296 = ((haT pr sa sp da dp : Nat) : Int) := by rw [← HN.out]; unfold haFin haF; omega
    have f0 : (((haE (haD n) : Nat) : Int) + ((haE (haD n) : Nat) : Int) * 32768 % 4294967296) % 4294967296 = ((haT pr sa sp da dp : Nat) : Int) := by rw [← HN.out]; unfold haFin haF; omega
    obtain ⟨V, hV⟩ : ∃ V, V = haT pr sa sp da dp := ⟨_, rfl⟩
    rw [← hV] at f1 f0
    have HV := Lib.hid hV
    generalize haE (haD n) = E at *
    generalize haD n / 2048 = D1 at *
    generalize haD n = A at *
    clear hV HN l1 l2
    have HK := Lib.hid hK
    have HD := Lib.hid hD
    have HBB := Lib.hid hB
    clear hK hD hB
    have c3 : ∀ v u x : Value, (((W.setCell ⟨w.heap.size + 1, 0, none⟩ v).setCell ⟨w.heap.size + 1, 0, none⟩ u).setCell ⟨w.heap.size + 1, 0, none⟩ x).cell? ⟨w.heap.size + 1, 0, none⟩ = some x := fun v u x =>
      World.cell?_setCell_same' _ _ _ (by rw [World.cell?_setCell_same' _ _ _ (by rw [World.cell?_setCell_same' _ _ _ (by rw [hc]; rfl)]; rfl)]; rfl)
    gi_wp2
    have HX : ∀ v u x : Value, (((W.setCell ⟨w.heap.size + 1, 0, none⟩ v).setCell ⟨w.heap.size + 1, 0, none⟩ u).setCell ⟨w.heap.size + 1, 0, none⟩ x).heap[D]? = some (.deferred (some [])) := fun v u x =>
      (((KeepsOthers.setCell W ⟨w.heap.size + 1, 0, none⟩ v).trans (KeepsOthers.setCell _ ⟨w.heap.size + 1, 0, none⟩ u)).trans (KeepsOthers.setCell _ ⟨w.heap.size + 1, 0, none⟩ x)).same D _ HK.out rfl
    refine ⟨by simp, .inl ⟨_, _, rfl, run_takeDeferred (HX _ _ _), ?_⟩⟩
    rw [← HV.out]
    have hB := HBB.out
    exact ⟨_, results_tmp rfl _ _ _, rfl, (((hB.setCell (p := ⟨w.heap.size + 1, 0, none⟩) (by simp) _).setCell (p := ⟨w.heap.size + 1, 0, none⟩) (by simp) _).setCell (p := ⟨w.heap.size + 1, 0, none⟩) (by simp) _).trans (belowK_b (w := w) (Nat.le_refl _) _ D _ _ (by have := HD.out; omega) (HX _ _ _) rfl rfl)⟩
  case stop =>
    rintro D c pre W _ _ h _
    exact h.elim
end
attribute [local go_sem ↓] Go.wp_at_zero Go.wp_at_succ
set_option maxHeartbeats 1000000 in
set_option maxRecDepth 100000 in
theorem of12_ (pr sa sp da dp : Nat) (k : Int) (w : World) (h0 : pr < 256) (h1 : sa < 4294967296) (h2 : sp < 65536) (h3 : da < 4294967296) (h4 : dp < 65536) (k1 : k ≤ 9223372036854775807) :
    Calls Try.prog 8 #[.agg #[.int .u8 (pr : Int), .int .u32 (sa : Int), .int .u16 (sp : Int), .int .u32 (da : Int), .int .u16 (dp : Int)], .int .i64 k] w fun e w' => e = .returned (.int .i64 (ofV k (haT pr sa sp da dp))) ∧ Below w.heap.size w w' := by
  by_cases hk : k < 1
  · have HV : Hid (ofV k (haT pr sa sp da dp) = 0) := by show _ = _; unfold ofV; rw [if_pos hk]
    have t1 : decide (k < 1) = true := by simpa using hk
    clear hk
    go_enter Try.func8, Try.ntmps8
    go_wp2
    go_ret
    rw [HV.out]
    exact ⟨rfl, (Below.refl _ _).alloc (Nat.le_refl _) _⟩
  · have hbd := ofV_bd (k := k) (haT_lt pr sa sp da dp)
    have HV : Hid (ofV k (haT pr sa sp da dp) = ((haT pr sa sp da dp : Nat) : Int) % k) := by show _ = _; unfold ofV; rw [if_neg hk]
    rw [HV.out] at hbd
    have cn := fun u => num12_ pr sa sp da dp u h0 h1 h2 h3 h4
    have hn := haT_lt pr sa sp da dp
    generalize haT pr sa sp da dp = n at *
    have e6 : IntKind.u64.wrap ((n : Nat) : Int) = ((n : Nat) : Int) := u64_cast n hn
    have t1 : decide (k < 1) = false := by simpa using hk
    have t2 : (k == 0) = false := by simp; omega
    have e1 : IntKind.u64.wrap k = k := IntWalk.u64_in _ (by omega)
    have e2 : ((n : Nat) : Int).tmod k = ((n : Nat) : Int) % k := Int.tmod_eq_emod_of_nonneg (by omega)
    obtain ⟨q, hq⟩ : ∃ q, q = ((n : Nat) : Int) % k := ⟨_, rfl⟩
    rw [← hq] at e2 hbd
    have HQ : Hid (ofV k n = q) := by show _ = _; rw [HV.out, hq]
    have e3 : IntKind.u64.wrap q = q := IntWalk.u64_in _ (by omega)
    have e4 : IntKind.i64.wrap q = q := IntWalk.i64_in _ (by omega)
    have e5 := hq.symm
    clear hq HV
    go_enter Try.func8, Try.ntmps8
    go_wp2_with fail
    refine (cn _).mono ?_; rintro e w1 ⟨rfl, b1⟩
    have B1 := ((Below.refl _ _).alloc (Nat.le_refl _) _).trans (b1.mono (Nat.le_of_lt (by simp)))
    clear b1 cn
    go_wp2
    go_ret
    rw [HQ.out]
    exact ⟨rfl, B1⟩
-- both
set_option maxHeartbeats 1000000 in
set_option maxRecDepth 100000 in
theorem both12_ (pr sa sp da dp pr' sa' sp' da' dp' : Nat) (k : Int) (w : World) (h0 : pr < 256) (h1 : sa < 4294967296) (h2 : sp < 65536) (h3 : da < 4294967296) (h4 : dp < 65536) (i0 : pr' < 256) (i1 : sa' < 4294967296) (i2 : sp' < 65536) (i3 : da' < 4294967296) (i4 : dp' < 65536) (k1 : k ≤ 9223372036854775807) :
    Calls Try.prog 6 #[.agg #[.int .u8 (pr : Int), .int .u32 (sa : Int), .int .u16 (sp : Int), .int .u32 (da : Int), .int .u16 (dp : Int)], .agg #[.int .u8 (pr' : Int), .int .u32 (sa' : Int), .int .u16 (sp' : Int), .int .u32 (da' : Int), .int .u16 (dp' : Int)], .int .i64 k] w fun e w' => e = .returned (.tuple #[.int .i64 (ofV k (haT pr sa sp da dp)), .int .i64 (ofV k (haT pr' sa' sp' da' dp'))]) ∧ Below w.heap.size w w' := by
  have ca := fun u => of12_ pr sa sp da dp k u h0 h1 h2 h3 h4 k1
  have cb := fun u => of12_ pr' sa' sp' da' dp' k u i0 i1 i2 i3 i4 k1
  obtain ⟨x, hx⟩ : ∃ x, x = ofV k (haT pr sa sp da dp) := ⟨_, rfl⟩
  obtain ⟨y, hy⟩ : ∃ y, y = ofV k (haT pr' sa' sp' da' dp') := ⟨_, rfl⟩
  rw [← hx] at ca
  rw [← hy] at cb
  have HX := Lib.hid hx
  have HY := Lib.hid hy
  clear hx hy
  go_enter Try.func6, Try.ntmps6
  go_wp2_with fail
  have A0 := (Box5.make w (.int .u8 (pr : Int)) (.int .u32 (sa : Int)) (.int .u16 (sp : Int)) (.int .u32 (da : Int)) (.int .u16 (dp : Int)) 28).past (o := .cells #[.int .u8 (pr' : Int), .int .u32 (sa' : Int), .int .u16 (sp' : Int), .int .u32 (da' : Int), .int .u16 (dp' : Int)] 28)
  have D0 := Box5.make (w.alloc (.cells #[.int .u8 (pr : Int), .int .u32 (sa : Int), .int .u16 (sp : Int), .int .u32 (da : Int), .int .u16 (dp : Int)] 28)) (.int .u8 (pr' : Int)) (.int .u32 (sa' : Int)) (.int .u16 (sp' : Int)) (.int .u32 (da' : Int)) (.int .u16 (dp' : Int)) 28
  rw [show (w.alloc (.cells #[.int .u8 (pr : Int), .int .u32 (sa : Int), .int .u16 (sp : Int), .int .u32 (da : Int), .int .u16 (dp : Int)] 28)).heap.size = w.heap.size + 1 by simp] at D0
  have B0 : Below w.heap.size w ((w.alloc (.cells #[.int .u8 (pr : Int), .int .u32 (sa : Int), .int .u16 (sp : Int), .int .u32 (da : Int), .int .u16 (dp : Int)] 28)).alloc (.cells #[.int .u8 (pr' : Int), .int .u32 (sa' : Int), .int .u16 (sp' : Int), .int .u32 (da' : Int), .int .u16 (dp' : Int)] 28)) := ((Below.refl _ _).alloc (Nat.le_refl _) _).alloc (by simp) _
  obtain ⟨w1, hw1⟩ : ∃ w1, w1 = (w.alloc (.cells #[.int .u8 (pr : Int), .int .u32 (sa : Int), .int .u16 (sp : Int), .int .u32 (da : Int), .int .u16 (dp : Int)] 28)).alloc (.cells #[.int .u8 (pr' : Int), .int .u32 (sa' : Int), .int .u16 (sp' : Int), .int .u32 (da' : Int), .int .u16 (dp' : Int)] 28) := ⟨_, rfl⟩
  rw [← hw1] at A0 B0 D0 ⊢
  clear hw1
  obtain ⟨s1, x0, x1, x2, x3, x4⟩ := id A0
  obtain ⟨s2, z0, z1, z2, z3, z4⟩ := id D0
  have p0 : ∀ q : Later w1.heap.size w1, q.u.cell? ⟨w.heap.size, 0, none⟩ = some (.int .u8 (pr : Int)) := fun q => q.block s1 x0
  have r0 : ∀ q : Later w1.heap.size w1, q.u.cell? ⟨w.heap.size + 1, 0, none⟩ = some (.int .u8 (pr' : Int)) := fun q => q.block s2 z0
  have p1 : ∀ q : Later w1.heap.size w1, q.u.cell? ⟨w.heap.size, 1, none⟩ = some (.int .u32 (sa : Int)) := fun q => q.block s1 x1
  have r1 : ∀ q : Later w1.heap.size w1, q.u.cell? ⟨w.heap.size + 1, 1, none⟩ = some (.int .u32 (sa' : Int)) := fun q => q.block s2 z1
  have p2 : ∀ q : Later w1.heap.size w1, q.u.cell? ⟨w.heap.size, 2, none⟩ = some (.int .u16 (sp : Int)) := fun q => q.block s1 x2
  have r2 : ∀ q : Later w1.heap.size w1, q.u.cell? ⟨w.heap.size + 1, 2, none⟩ = some (.int .u16 (sp' : Int)) := fun q => q.block s2 z2
  have p3 : ∀ q : Later w1.heap.size w1, q.u.cell? ⟨w.heap.size, 3, none⟩ = some (.int .u32 (da : Int)) := fun q => q.block s1 x3
  have r3 : ∀ q : Later w1.heap.size w1, q.u.cell? ⟨w.heap.size + 1, 3, none⟩ = some (.int .u32 (da' : Int)) := fun q => q.block s2 z3
  have p4 : ∀ q : Later w1.heap.size w1, q.u.cell? ⟨w.heap.size, 4, none⟩ = some (.int .u16 (dp : Int)) := fun q => q.block s1 x4
  have r4 : ∀ q : Later w1.heap.size w1, q.u.cell? ⟨w.heap.size + 1, 4, none⟩ = some (.int .u16 (dp' : Int)) := fun q => q.block s2 z4
  clear A0 D0 x0 x1 x2 x3 x4 z0 z1 z2 z3 z4 s1 s2
  refine region_later (B := w1.heap.size) (by kernel_rfl) (by kernel_rfl) ?_
  repeat (go_big_quiet_step (first
    | (go_at_call_of 8 (Value.int IntKind.u32 (sa : Int)); exact later_of _ (Nat.le_refl _) (ca _))
    | (go_at_call_of 8 (Value.int IntKind.u32 (sa' : Int)); exact later_of _ (Nat.le_refl _) (cb _))))
  refine later_end fun w2 b2 => ?_
  have B2 := B0.trans (b2.mono B0.size)
  clear B0 b2 ca cb p0 p1 p2 p3 p4 r0 r1 r2 r3 r4
  go_wp2
  go_ret2
  rw [← HX.out, ← HY.out]
  exact ⟨rfl, B2⟩
end Go.Proofs.Ytijippfcobgidaa
