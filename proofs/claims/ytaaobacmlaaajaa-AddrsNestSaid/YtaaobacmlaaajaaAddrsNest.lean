/- The walk of AddrsNest. -/
import Derived.Test.YtaaobacmlaaajaaAddrsN
import Derived.Test.YtaaobacmlaaajaaAddrsNestP
import Derived.Deep.RegionHeld3
import Derived.Deep.DeepCutAuto
namespace Go.Proofs.Ytaaobacmlaaajaa.AddrsNest
set_option linter.unusedVariables false
set_option linter.unusedSimpArgs false
open Go.ChangeShapes Go.WideShapes Go.ChangeAt Go.RowKit Go.PlainAid
theorem le_alloc {B : Nat} {w : World} {o : Obj} (h : B ≤ w.heap.size) : B ≤ (w.alloc o).heap.size := by simp; omega
/-- A cell that may be written, and what it holds. -/
def Own (w : World) (a : Addr) (v : Value) : Prop := w.cell? a = some v ∧ w.frozen? a = false
theorem Own.new0 {w : World} {v0 v1 : Value} {t : TypeId} {n : Nat} (hn : n = w.heap.size) : Own (w.alloc (.cells #[v0, v1] t)) ⟨n, 0, none⟩ v0 :=
  ⟨World.cell?_alloc_at _ _ _ _ hn, World.frozen?_alloc_at _ _ _ _ hn⟩
theorem Own.new1 {w : World} {v0 v1 : Value} {t : TypeId} {n : Nat} (hn : n = w.heap.size) : Own (w.alloc (.cells #[v0, v1] t)) ⟨n, 1, none⟩ v1 :=
  ⟨World.cell?_alloc_at _ _ _ _ hn, World.frozen?_alloc_at _ _ _ _ hn⟩
theorem Own.old {w : World} {o : Obj} {n i : Nat} {v : Value} (h : Own w ⟨n, i, none⟩ v) : Own (w.alloc o) ⟨n, i, none⟩ v :=
  ⟨(World.cell?_alloc_past _ _ _ (World.block_lt_of_cell? _ _ h.1)).trans h.1, (World.frozen?_alloc_past _ _ _ (World.block_lt_of_cell? _ _ h.1)).trans h.2⟩
theorem Own.drew {w : World} {a : Addr} {v : Value} (h : Own w a v) : Own w.drew a v := h
theorem Own.kept {W w1 : World} {a : Addr} {v : Value} (hb : Below W.heap.size W w1) (h : Own W a v) : Own w1 a v :=
  ⟨(hb.cell (World.block_lt_of_cell? _ _ h.1)).trans h.1, (hb.frozen (World.block_lt_of_cell? _ _ h.1)).trans h.2⟩
/-- Two times two cells, stored. -/
theorem set4 {Y : World} {P Q : Nat} (hPQ : ¬ P = Q) {a b c d : Value} (p0 : Own Y ⟨P, 0, none⟩ a) (p1 : Own Y ⟨P, 1, none⟩ b) (q0 : Own Y ⟨Q, 0, none⟩ c) (q1 : Own Y ⟨Q, 1, none⟩ d) (v0 v1 v2 v3 : Value) :
    ((((Y.setCell ⟨P, 0, none⟩ v0).setCell ⟨P, 1, none⟩ v1).setCell ⟨Q, 0, none⟩ v2).setCell ⟨Q, 1, none⟩ v3).cell? ⟨P, 0, none⟩ = some v0 ∧
    ((((Y.setCell ⟨P, 0, none⟩ v0).setCell ⟨P, 1, none⟩ v1).setCell ⟨Q, 0, none⟩ v2).setCell ⟨Q, 1, none⟩ v3).cell? ⟨P, 1, none⟩ = some v1 ∧
    ((((Y.setCell ⟨P, 0, none⟩ v0).setCell ⟨P, 1, none⟩ v1).setCell ⟨Q, 0, none⟩ v2).setCell ⟨Q, 1, none⟩ v3).cell? ⟨Q, 0, none⟩ = some v2 ∧
    ((((Y.setCell ⟨P, 0, none⟩ v0).setCell ⟨P, 1, none⟩ v1).setCell ⟨Q, 0, none⟩ v2).setCell ⟨Q, 1, none⟩ v3).cell? ⟨Q, 1, none⟩ = some v3 := by
  have h0 := p0.1
  have h1 := p1.1
  have h2 := q0.1
  have h3 := q1.1
  have hQP : ¬ Q = P := fun h => hPQ h.symm
  refine ⟨?_, ?_, ?_, ?_⟩ <;> simp [go_sem, h0, h1, h2, h3, hPQ, hQP]
set_option maxHeartbeats 4000000 in
set_option maxRecDepth 100000 in
theorem walkN (a b x y : Nat) (w : World) (ha : a < 4294967296) (hb : b < 4294967296) (hx : x ≤ 255) (hy : y ≤ 255) :
    Calls Try.prog 4 #[.int .u32 (a : Int), .int .u32 (b : Int), .agg #[.int .u8 (x : Int), .int .u8 (y : Int)]] w fun e w' => e = .returned (.bool true) ∧ Below w.heap.size w w' := by
  obtain ⟨m, hm⟩ : ∃ m : Nat, m = max (x % 33) (y % 33) := ⟨_, rfl⟩
  obtain ⟨n, hn⟩ : ∃ n : Nat, n = min (x % 33) (y % 33) := ⟨_, rfl⟩
  obtain ⟨w1, hw1⟩ : ∃ w1, w1 = w.alloc (.cells #[.int .u8 (x : Int), .int .u8 (y : Int)] 38) := ⟨_, rfl⟩
  have B1 : Below w.heap.size w w1 := by rw [hw1]; exact (Below.refl _ _).alloc (Nat.le_refl _) _
  have s1 : w.heap.size < w1.heap.size := by rw [hw1]; simp
  have r1 : w1.cell? ⟨w.heap.size, 0, none⟩ = some (.int .u8 (x : Int)) := by rw [hw1]; simp
  have r2 : w1.cell? ⟨w.heap.size, 1, none⟩ = some (.int .u8 (y : Int)) := by rw [hw1]; simp
  have HW := Lib.hid hw1
  clear hw1
  have c1 := fun u => whole_ a m u ha (by omega)
  have c2 := fun u => whole_ b n u hb (by omega)
  have hwm : wbits m = m := by unfold wbits; omega
  have hwn : wbits n = n := by unfold wbits; omega
  rw [hwm] at c1
  rw [hwn] at c2
  generalize hF : firstN a m = F at *
  generalize hG : firstN b n = G at *
  have HFG := Lib.hid (And.intro hF hG)
  have HMN := Lib.hid (show m ≤ 32 ∧ n ≤ m by omega)
  have t1 : (x : Int).tmod 33 = ((x % 33 : Nat) : Int) := by rw [Int.tmod_eq_emod_of_nonneg (by omega)]; omega
  have t2 : (y : Int).tmod 33 = ((y % 33 : Nat) : Int) := by rw [Int.tmod_eq_emod_of_nonneg (by omega)]; omega
  have t3 : (if ((x % 33 : Nat) : Int) < ((y % 33 : Nat) : Int) then ((y % 33 : Nat) : Int) else ((x % 33 : Nat) : Int)) = (m : Int) := by split <;> omega
  have t4 : (if x % 33 < y % 33 then ((y % 33 : Nat) : Int) else ((x % 33 : Nat) : Int)) = (m : Int) := by split <;> omega
  have t5 : (if ((y % 33 : Nat) : Int) < ((x % 33 : Nat) : Int) then ((y % 33 : Nat) : Int) else ((x % 33 : Nat) : Int)) = (n : Int) := by split <;> omega
  have t6 : (if y % 33 < x % 33 then ((y % 33 : Nat) : Int) else ((x % 33 : Nat) : Int)) = (n : Int) := by split <;> omega
  generalize x % 33 = x' at *
  generalize y % 33 = y' at *
  clear hF hG hwm hwn hm hn
  go_enter Try.func4, Try.ntmps4
  go_upto_region 1 with fail
  rw [← HW.out]
  go_cut [7, 8] (fun s7 s8 wx => ∃ P Q : Nat, s7 = .pointer (some ⟨P, 0, none⟩) ∧ s8 = .pointer (some ⟨Q, 0, none⟩) ∧ P < wx.heap.size ∧ Q < wx.heap.size ∧ wx.cell? ⟨P, 0, none⟩ = some (.int .u32 (F : Int)) ∧ wx.cell? ⟨P, 1, none⟩ = some (.int .i64 (m : Int)) ∧ wx.cell? ⟨Q, 0, none⟩ = some (.int .u32 (G : Int)) ∧ wx.cell? ⟨Q, 1, none⟩ = some (.int .i64 (n : Int)) ∧ Below w.heap.size w wx)
  case first =>
    have MK := Lib.hid (show ∀ w', Below w1.heap.size w1 w' → w'.cell? ⟨w.heap.size, 0, none⟩ = some (.int .u8 (x : Int)) ∧ w'.cell? ⟨w.heap.size, 1, none⟩ = some (.int .u8 (y : Int)) ∧ Below w1.heap.size w1 w' from
      fun w' h => ⟨(h.cell (World.block_lt_of_cell? _ _ r1)).trans r1, (h.cell (World.block_lt_of_cell? _ _ r2)).trans r2, h⟩)
    refine wp_region_held_drew (S := (fun w' => w'.cell? ⟨w.heap.size, 0, none⟩ = some (.int .u8 (x : Int)) ∧ w'.cell? ⟨w.heap.size, 1, none⟩ = some (.int .u8 (y : Int)) ∧ Below w1.heap.size w1 w')) (by kernel_rfl) ?_ (fun hHeld => ?_)
    · exact MK.out _ (Below.refl _ _).drew
    generalize w1.drew = wd at hHeld ⊢
    refine wpAnyH_take (i := 0) (oi := _) (v := ?_) rfl (by kernel_rfl) (by kernel_rfl) (by kernel_rfl) (fun _ _ _ h => h) (Or.inl ⟨by rfl, ?_⟩) (by assumption) ?_
    rotate_left
    · intro w hSw
      (try dsimp only at hSw)
      go_simp
      with_reducible rfl
    try simp only [Act.put, List.setIfInBounds_toArray, List.set_cons_zero, List.set_cons_succ]
    refine wpAnyH_take (i := 1) (oi := _) (v := ?_) rfl (by kernel_rfl) (by kernel_rfl) (by kernel_rfl) (fun _ _ _ h => h) (Or.inl ⟨by rfl, ?_⟩) (by assumption) ?_
    rotate_left
    · intro w hSw
      (try dsimp only at hSw)
      go_simp
      with_reducible rfl
    try simp only [Act.put, List.setIfInBounds_toArray, List.set_cons_zero, List.set_cons_succ]
    refine wpAnyH_take (i := 2) (oi := _) (v := ?_) rfl (by kernel_rfl) (by kernel_rfl) (by kernel_rfl) (fun _ _ _ h => h) (Or.inl ⟨by rfl, ?_⟩) (by assumption) ?_
    rotate_left
    · intro w hSw
      (try dsimp only at hSw)
      go_simp
      with_reducible rfl
    try simp only [Act.put, List.setIfInBounds_toArray, List.set_cons_zero, List.set_cons_succ]
    refine wpAnyH_take (i := 3) (oi := _) (v := ?_) rfl (by kernel_rfl) (by kernel_rfl) (by kernel_rfl) (fun _ _ _ h => h) (Or.inl ⟨by rfl, ?_⟩) (by assumption) ?_
    rotate_left
    · intro w hSw
      (try dsimp only at hSw)
      go_simp
      with_reducible rfl
    try simp only [Act.put, List.setIfInBounds_toArray, List.set_cons_zero, List.set_cons_succ]
    refine wpAnyH_take (i := 4) (oi := _) (v := ?_) rfl (by kernel_rfl) (by kernel_rfl) (by kernel_rfl) (fun _ _ _ h => h) (Or.inl ⟨by rfl, ?_⟩) (by assumption) ?_
    rotate_left
    · intro w hSw
      (try dsimp only at hSw)
      go_simp
      with_reducible rfl
    try simp only [Act.put, List.setIfInBounds_toArray, List.set_cons_zero, List.set_cons_succ]
    refine wpAnyH_take (i := 5) (oi := _) (v := ?_) rfl (by kernel_rfl) (by kernel_rfl) (by kernel_rfl) (fun _ _ _ h => h) (Or.inl ⟨by rfl, ?_⟩) (by assumption) ?_
    rotate_left
    · intro w hSw
      (try dsimp only at hSw)
      go_simp
      with_reducible rfl
    try simp only [Act.put, List.setIfInBounds_toArray, List.set_cons_zero, List.set_cons_succ]
    refine wpAnyH_take (i := 6) (oi := _) (v := ?_) rfl (by kernel_rfl) (by kernel_rfl) (by kernel_rfl) (fun _ _ _ h => h) (Or.inl ⟨by rfl, ?_⟩) (by assumption) ?_
    rotate_left
    · intro w hSw
      (try dsimp only at hSw)
      go_simp
      with_reducible rfl
    try simp only [Act.put, List.setIfInBounds_toArray, List.set_cons_zero, List.set_cons_succ]
    refine wpAnyH_take (i := 7) (oi := _) (v := ?_) rfl (by kernel_rfl) (by kernel_rfl) (by kernel_rfl) (fun _ _ _ h => h) (Or.inl ⟨by rfl, ?_⟩) (by assumption) ?_
    rotate_left
    · intro w hSw
      (try dsimp only at hSw)
      go_simp
      with_reducible rfl
    try simp only [Act.put, List.setIfInBounds_toArray, List.set_cons_zero, List.set_cons_succ]
    refine wpAnyH_take (i := 9) (oi := _) (v := ?_) rfl (by kernel_rfl) (by kernel_rfl) (by kernel_rfl) (fun _ _ _ h => h) (Or.inl ⟨by rfl, ?_⟩) (by assumption) ?_
    rotate_left
    · intro w hSw
      (try dsimp only at hSw)
      go_simp
      with_reducible rfl
    try simp only [Act.put, List.setIfInBounds_toArray, List.set_cons_zero, List.set_cons_succ]
    refine wpAnyH_take (i := 10) (oi := _) (v := ?_) rfl (by kernel_rfl) (by kernel_rfl) (by kernel_rfl) (fun _ _ _ h => h) (Or.inl ⟨by rfl, ?_⟩) (by assumption) ?_
    rotate_left
    · intro w hSw
      (try dsimp only at hSw)
      go_simp
      with_reducible rfl
    try simp only [Act.put, List.setIfInBounds_toArray, List.set_cons_zero, List.set_cons_succ]
    refine wpAnyH_take (i := 11) (oi := _) (v := ?_) rfl (by kernel_rfl) (by kernel_rfl) (by kernel_rfl) (fun _ _ _ h => h) (Or.inl ⟨by rfl, ?_⟩) (by assumption) ?_
    rotate_left
    · intro w hSw
      (try dsimp only at hSw)
      go_simp
      with_reducible rfl
    try simp only [Act.put, List.setIfInBounds_toArray, List.set_cons_zero, List.set_cons_succ]
    refine wpAnyH_take (i := 12) (oi := _) (v := ?_) rfl (by kernel_rfl) (by kernel_rfl) (by kernel_rfl) (fun _ _ _ h => h) (Or.inl ⟨by rfl, ?_⟩) (by assumption) ?_
    rotate_left
    · intro w hSw
      (try dsimp only at hSw)
      go_simp
      with_reducible rfl
    try simp only [Act.put, List.setIfInBounds_toArray, List.set_cons_zero, List.set_cons_succ]
    refine wpAnyH_take (i := 13) (oi := _) (v := ?_) rfl (by kernel_rfl) (by kernel_rfl) (by kernel_rfl) (fun _ _ _ h => h) (Or.inl ⟨by rfl, ?_⟩) (by assumption) ?_
    rotate_left
    · intro w hSw
      (try dsimp only at hSw)
      go_simp
      with_reducible rfl
    try simp only [Act.put, List.setIfInBounds_toArray, List.set_cons_zero, List.set_cons_succ]
    refine wpAnyH_take (i := 14) (oi := _) (v := ?_) rfl (by kernel_rfl) (by kernel_rfl) (by kernel_rfl) (fun _ _ _ h => h) (Or.inl ⟨by rfl, ?_⟩) (by assumption) ?_
    rotate_left
    · intro w hSw
      (try dsimp only at hSw)
      go_simp
      with_reducible rfl
    try simp only [Act.put, List.setIfInBounds_toArray, List.set_cons_zero, List.set_cons_succ]
    refine wpAnyH_take (i := 15) (oi := _) (v := ?_) rfl (by kernel_rfl) (by kernel_rfl) (by kernel_rfl) (fun _ _ _ h => h) (Or.inl ⟨by rfl, ?_⟩) (by assumption) ?_
    rotate_left
    · intro w hSw
      (try dsimp only at hSw)
      go_simp
      with_reducible rfl
    try simp only [Act.put, List.setIfInBounds_toArray, List.set_cons_zero, List.set_cons_succ]
    refine wpAnyH_take (i := 16) (oi := _) (v := ?_) rfl (by kernel_rfl) (by kernel_rfl) (by kernel_rfl) (fun _ _ _ h => h) (Or.inl ⟨by rfl, ?_⟩) (by assumption) ?_
    rotate_left
    · intro w hSw
      (try dsimp only at hSw)
      go_simp
      with_reducible rfl
    try simp only [Act.put, List.setIfInBounds_toArray, List.set_cons_zero, List.set_cons_succ]
    clear t1 t2 t3 t4 t5 t6 r1 r2
    have hwd : w1.heap.size ≤ wd.heap.size := hHeld.2.2.size
    refine wpAnyH_ready (rs := [8, 18, 19]) (by kernel_rfl) (by simp) ?_
    refine AllReadyH.cons (o := _) rfl (fun K hK => ?_) ?_
    · go_simp
      refine (c1 _).mono ?_
      rintro e w2 ⟨rfl, hbw⟩
      have hbws : wd.heap.size + 0 ≤ w2.heap.size := by have h := hbw.size; (try simp only [World.size_alloc] at h); omega
      show K _ w2
      refine hK.out _ _ (MK.out _ (hHeld.2.2.trans (hbw.mono hHeld.2.2.size))) (fun hHeld2 => ?_)
      clear hHeld
      have hHeld := hHeld2
      clear hHeld2 hK K
      try simp only [Act.put, List.setIfInBounds_toArray, List.set_cons_zero, List.set_cons_succ]
      refine wpAnyH_ready (rs := [17, 18, 19]) (by kernel_rfl) (by simp) ?_
      refine AllReadyH.cons (o := _) rfl (fun K hK => ?_) ?_
      · go_simp
        refine (c2 _).mono ?_
        rintro e w3 ⟨rfl, hbv⟩
        have hbvs : w2.heap.size + 0 ≤ w3.heap.size := by have h := hbv.size; (try simp only [World.size_alloc] at h); omega
        show K _ w3
        refine hK.out _ _ (MK.out _ (hHeld.2.2.trans (hbv.mono hHeld.2.2.size))) (fun hHeld2 => ?_)
        clear hHeld
        have hHeld := hHeld2
        clear hHeld2 hK K
        try simp only [Act.put, List.setIfInBounds_toArray, List.set_cons_zero, List.set_cons_succ]
        refine wpAnyH_ready (rs := [18, 19]) (by kernel_rfl) (by simp) ?_
        refine AllReadyH.cons (o := _) rfl (fun K hK => ?_) ?_
        · go_simp
          refine hK.out _ _ (MK.out _ (hHeld.2.2.alloc hHeld.2.2.size _)) (fun hHeld2 => ?_)
          have p0 : Own (w3.alloc (.cells #[.int .u32 0, .int .i64 0] 29)) ⟨w3.heap.size, 0, none⟩ (.int .u32 0) := Own.new0 (by simp)
          have p1 : Own (w3.alloc (.cells #[.int .u32 0, .int .i64 0] 29)) ⟨w3.heap.size, 1, none⟩ (.int .i64 0) := Own.new1 (by simp)
          clear hHeld
          have hHeld := hHeld2
          clear hHeld2 hK K
          try simp only [Act.put, List.setIfInBounds_toArray, List.set_cons_zero, List.set_cons_succ]
          refine wpAnyH_ready (rs := [19]) (by kernel_rfl) (by simp) ?_
          refine AllReadyH.cons (o := _) rfl (fun K hK => ?_) ?_
          · go_simp
            refine hK.out _ _ (MK.out _ (hHeld.2.2.alloc hHeld.2.2.size _)) (fun hHeld2 => ?_)
            have q0 : Own ((w3.alloc (.cells #[.int .u32 0, .int .i64 0] 29)).alloc (.cells #[.int .u32 0, .int .i64 0] 29)) ⟨w3.heap.size + 1, 0, none⟩ (.int .u32 0) := Own.new0 (by simp)
            have q1 : Own ((w3.alloc (.cells #[.int .u32 0, .int .i64 0] 29)).alloc (.cells #[.int .u32 0, .int .i64 0] 29)) ⟨w3.heap.size + 1, 1, none⟩ (.int .i64 0) := Own.new1 (by simp)
            have p0 := Own.old (o := (.cells #[.int .u32 0, .int .i64 0] 29)) p0
            have p1 := Own.old (o := (.cells #[.int .u32 0, .int .i64 0] 29)) p1
            clear hHeld
            have hHeld := hHeld2
            clear hHeld2 hK K
            try simp only [Act.put, List.setIfInBounds_toArray, List.set_cons_zero, List.set_cons_succ]
            have hPQ : ¬ w3.heap.size = w3.heap.size + 1 := by omega
            have hP : w1.heap.size ≤ w3.heap.size := by omega
            have hQ : w1.heap.size ≤ w3.heap.size + 1 := by omega
            have hPy : w3.heap.size < ((w3.alloc (.cells #[.int .u32 0, .int .i64 0] 29)).alloc (.cells #[.int .u32 0, .int .i64 0] 29)).heap.size := World.block_lt_of_cell? _ _ p0.1
            have hQy : w3.heap.size + 1 < ((w3.alloc (.cells #[.int .u32 0, .int .i64 0] 29)).alloc (.cells #[.int .u32 0, .int .i64 0] 29)).heap.size := World.block_lt_of_cell? _ _ q0.1
            have hB : Below w1.heap.size w1 ((w3.alloc (.cells #[.int .u32 0, .int .i64 0] 29)).alloc (.cells #[.int .u32 0, .int .i64 0] 29)) := hHeld.2.2
            clear hHeld
            generalize ((w3.alloc (.cells #[.int .u32 0, .int .i64 0] 29)).alloc (.cells #[.int .u32 0, .int .i64 0] 29)) = Y at p0 p1 q0 q1 hPy hQy hB ⊢
            generalize w3.heap.size + 1 = Q at q0 q1 hPQ hQ hQy ⊢
            generalize w3.heap.size = P at p0 p1 hPQ hP hPy ⊢
            refine wpAnyH_ready (rs := [20]) (by kernel_rfl) (by simp) ?_
            refine AllReadyH.cons (o := _) rfl (fun K hK => ?_) AllReadyH.nil
            have x0 := p0.1
            have x1 := p1.1
            have x2 := q0.1
            have x3 := q1.1
            have y0 := p0.2
            have y1 := p1.2
            have y2 := q0.2
            have y3 := q1.2
            go_simp
            refine hK.out _ _ (MK.out _ ((hB.setCell hP _).setCell hP _)) (fun hHeld => ?_)
            clear hK K
            try simp only [Act.put, List.setIfInBounds_toArray, List.set_cons_zero, List.set_cons_succ]
            refine wpAnyH_ready (rs := [21]) (by kernel_rfl) (by simp) ?_
            refine AllReadyH.cons (o := _) rfl (fun K hK => ?_) AllReadyH.nil
            go_simp
            refine hK.out _ _ (MK.out _ ((((hB.setCell hP _).setCell hP _).setCell hQ _).setCell hQ _)) (fun hHeld => ?_)
            clear hK K
            try simp only [Act.put, List.setIfInBounds_toArray, List.set_cons_zero, List.set_cons_succ]
            refine wpAnyH_done (by kernel_rfl) ?_ _
            go_wp2_with fail
            go_meet
            obtain ⟨f0, f1, f2, f3⟩ := set4 hPQ p0 p1 q0 q1 (.int .u32 (F : Int)) (.int .i64 (m : Int)) (.int .u32 (G : Int)) (.int .i64 (n : Int))
            exact ⟨P, Q, rfl, rfl, by simpa using hPy, by simpa using hQy, f0, f1, f2, f3, B1.trans (hHeld.2.2.mono (Nat.le_of_lt s1))⟩
          exact AllReadyH.nil
        refine AllReadyH.cons (o := _) rfl (fun K hK => ?_) ?_
        · go_simp
          refine hK.out _ _ (MK.out _ (hHeld.2.2.alloc hHeld.2.2.size _)) (fun hHeld2 => ?_)
          have q0 : Own (w3.alloc (.cells #[.int .u32 0, .int .i64 0] 29)) ⟨w3.heap.size, 0, none⟩ (.int .u32 0) := Own.new0 (by simp)
          have q1 : Own (w3.alloc (.cells #[.int .u32 0, .int .i64 0] 29)) ⟨w3.heap.size, 1, none⟩ (.int .i64 0) := Own.new1 (by simp)
          clear hHeld
          have hHeld := hHeld2
          clear hHeld2 hK K
          try simp only [Act.put, List.setIfInBounds_toArray, List.set_cons_zero, List.set_cons_succ]
          refine wpAnyH_ready (rs := [18]) (by kernel_rfl) (by simp) ?_
          refine AllReadyH.cons (o := _) rfl (fun K hK => ?_) ?_
          · go_simp
            refine hK.out _ _ (MK.out _ (hHeld.2.2.alloc hHeld.2.2.size _)) (fun hHeld2 => ?_)
            have p0 : Own ((w3.alloc (.cells #[.int .u32 0, .int .i64 0] 29)).alloc (.cells #[.int .u32 0, .int .i64 0] 29)) ⟨w3.heap.size + 1, 0, none⟩ (.int .u32 0) := Own.new0 (by simp)
            have p1 : Own ((w3.alloc (.cells #[.int .u32 0, .int .i64 0] 29)).alloc (.cells #[.int .u32 0, .int .i64 0] 29)) ⟨w3.heap.size + 1, 1, none⟩ (.int .i64 0) := Own.new1 (by simp)
            have q0 := Own.old (o := (.cells #[.int .u32 0, .int .i64 0] 29)) q0
            have q1 := Own.old (o := (.cells #[.int .u32 0, .int .i64 0] 29)) q1
            clear hHeld
            have hHeld := hHeld2
            clear hHeld2 hK K
            try simp only [Act.put, List.setIfInBounds_toArray, List.set_cons_zero, List.set_cons_succ]
            have hPQ : ¬ w3.heap.size + 1 = w3.heap.size := by omega
            have hP : w1.heap.size ≤ w3.heap.size + 1 := by omega
            have hQ : w1.heap.size ≤ w3.heap.size := by omega
            have hPy : w3.heap.size + 1 < ((w3.alloc (.cells #[.int .u32 0, .int .i64 0] 29)).alloc (.cells #[.int .u32 0, .int .i64 0] 29)).heap.size := World.block_lt_of_cell? _ _ p0.1
            have hQy : w3.heap.size < ((w3.alloc (.cells #[.int .u32 0, .int .i64 0] 29)).alloc (.cells #[.int .u32 0, .int .i64 0] 29)).heap.size := World.block_lt_of_cell? _ _ q0.1
            have hB : Below w1.heap.size w1 ((w3.alloc (.cells #[.int .u32 0, .int .i64 0] 29)).alloc (.cells #[.int .u32 0, .int .i64 0] 29)) := hHeld.2.2
            clear hHeld
            generalize ((w3.alloc (.cells #[.int .u32 0, .int .i64 0] 29)).alloc (.cells #[.int .u32 0, .int .i64 0] 29)) = Y at p0 p1 q0 q1 hPy hQy hB ⊢
            generalize w3.heap.size + 1 = P at p0 p1 hPQ hP hPy ⊢
            generalize w3.heap.size = Q at q0 q1 hPQ hQ hQy ⊢
            refine wpAnyH_ready (rs := [20]) (by kernel_rfl) (by simp) ?_
            refine AllReadyH.cons (o := _) rfl (fun K hK => ?_) AllReadyH.nil
            have x0 := p0.1
            have x1 := p1.1
            have x2 := q0.1
            have x3 := q1.1
            have y0 := p0.2
            have y1 := p1.2
            have y2 := q0.2
            have y3 := q1.2
            go_simp
            refine hK.out _ _ (MK.out _ ((hB.setCell hP _).setCell hP _)) (fun hHeld => ?_)
            clear hK K
            try simp only [Act.put, List.setIfInBounds_toArray, List.set_cons_zero, List.set_cons_succ]
            refine wpAnyH_ready (rs := [21]) (by kernel_rfl) (by simp) ?_
            refine AllReadyH.cons (o := _) rfl (fun K hK => ?_) AllReadyH.nil
            go_simp
            refine hK.out _ _ (MK.out _ ((((hB.setCell hP _).setCell hP _).setCell hQ _).setCell hQ _)) (fun hHeld => ?_)
            clear hK K
            try simp only [Act.put, List.setIfInBounds_toArray, List.set_cons_zero, List.set_cons_succ]
            refine wpAnyH_done (by kernel_rfl) ?_ _
            go_wp2_with fail
            go_meet
            obtain ⟨f0, f1, f2, f3⟩ := set4 hPQ p0 p1 q0 q1 (.int .u32 (F : Int)) (.int .i64 (m : Int)) (.int .u32 (G : Int)) (.int .i64 (n : Int))
            exact ⟨P, Q, rfl, rfl, by simpa using hPy, by simpa using hQy, f0, f1, f2, f3, B1.trans (hHeld.2.2.mono (Nat.le_of_lt s1))⟩
          exact AllReadyH.nil
        exact AllReadyH.nil
      refine AllReadyH.cons (o := _) rfl (fun K hK => ?_) ?_
      · go_simp
        refine hK.out _ _ (MK.out _ (hHeld.2.2.alloc hHeld.2.2.size _)) (fun hHeld2 => ?_)
        have p0 : Own (w2.alloc (.cells #[.int .u32 0, .int .i64 0] 29)) ⟨w2.heap.size, 0, none⟩ (.int .u32 0) := Own.new0 (by simp)
        have p1 : Own (w2.alloc (.cells #[.int .u32 0, .int .i64 0] 29)) ⟨w2.heap.size, 1, none⟩ (.int .i64 0) := Own.new1 (by simp)
        clear hHeld
        have hHeld := hHeld2
        clear hHeld2 hK K
        try simp only [Act.put, List.setIfInBounds_toArray, List.set_cons_zero, List.set_cons_succ]
        refine wpAnyH_ready (rs := [17, 19]) (by kernel_rfl) (by simp) ?_
        refine AllReadyH.cons (o := _) rfl (fun K hK => ?_) ?_
        · go_simp
          refine (c2 _).mono ?_
          rintro e w3 ⟨rfl, hbv⟩
          have hbvs : w2.heap.size + 1 ≤ w3.heap.size := by have h := hbv.size; (try simp only [World.size_alloc] at h); omega
          have p0 := Own.kept hbv p0
          have p1 := Own.kept hbv p1
          show K _ w3
          refine hK.out _ _ (MK.out _ (hHeld.2.2.trans (hbv.mono hHeld.2.2.size))) (fun hHeld2 => ?_)
          clear hHeld
          have hHeld := hHeld2
          clear hHeld2 hK K
          try simp only [Act.put, List.setIfInBounds_toArray, List.set_cons_zero, List.set_cons_succ]
          refine wpAnyH_ready (rs := [19]) (by kernel_rfl) (by simp) ?_
          refine AllReadyH.cons (o := _) rfl (fun K hK => ?_) ?_
          · go_simp
            refine hK.out _ _ (MK.out _ (hHeld.2.2.alloc hHeld.2.2.size _)) (fun hHeld2 => ?_)
            have q0 : Own (w3.alloc (.cells #[.int .u32 0, .int .i64 0] 29)) ⟨w3.heap.size, 0, none⟩ (.int .u32 0) := Own.new0 (by simp)
            have q1 : Own (w3.alloc (.cells #[.int .u32 0, .int .i64 0] 29)) ⟨w3.heap.size, 1, none⟩ (.int .i64 0) := Own.new1 (by simp)
            have p0 := Own.old (o := (.cells #[.int .u32 0, .int .i64 0] 29)) p0
            have p1 := Own.old (o := (.cells #[.int .u32 0, .int .i64 0] 29)) p1
            clear hHeld
            have hHeld := hHeld2
            clear hHeld2 hK K
            try simp only [Act.put, List.setIfInBounds_toArray, List.set_cons_zero, List.set_cons_succ]
            have hPQ : ¬ w2.heap.size = w3.heap.size := by omega
            have hP : w1.heap.size ≤ w2.heap.size := by omega
            have hQ : w1.heap.size ≤ w3.heap.size := by omega
            have hPy : w2.heap.size < (w3.alloc (.cells #[.int .u32 0, .int .i64 0] 29)).heap.size := World.block_lt_of_cell? _ _ p0.1
            have hQy : w3.heap.size < (w3.alloc (.cells #[.int .u32 0, .int .i64 0] 29)).heap.size := World.block_lt_of_cell? _ _ q0.1
            have hB : Below w1.heap.size w1 (w3.alloc (.cells #[.int .u32 0, .int .i64 0] 29)) := hHeld.2.2
            clear hHeld
            generalize (w3.alloc (.cells #[.int .u32 0, .int .i64 0] 29)) = Y at p0 p1 q0 q1 hPy hQy hB ⊢
            generalize w2.heap.size = P at p0 p1 hPQ hP hPy ⊢
            generalize w3.heap.size = Q at q0 q1 hPQ hQ hQy ⊢
            refine wpAnyH_ready (rs := [20]) (by kernel_rfl) (by simp) ?_
            refine AllReadyH.cons (o := _) rfl (fun K hK => ?_) AllReadyH.nil
            have x0 := p0.1
            have x1 := p1.1
            have x2 := q0.1
            have x3 := q1.1
            have y0 := p0.2
            have y1 := p1.2
            have y2 := q0.2
            have y3 := q1.2
            go_simp
            refine hK.out _ _ (MK.out _ ((hB.setCell hP _).setCell hP _)) (fun hHeld => ?_)
            clear hK K
            try simp only [Act.put, List.setIfInBounds_toArray, List.set_cons_zero, List.set_cons_succ]
            refine wpAnyH_ready (rs := [21]) (by kernel_rfl) (by simp) ?_
            refine AllReadyH.cons (o := _) rfl (fun K hK => ?_) AllReadyH.nil
            go_simp
            refine hK.out _ _ (MK.out _ ((((hB.setCell hP _).setCell hP _).setCell hQ _).setCell hQ _)) (fun hHeld => ?_)
            clear hK K
            try simp only [Act.put, List.setIfInBounds_toArray, List.set_cons_zero, List.set_cons_succ]
            refine wpAnyH_done (by kernel_rfl) ?_ _
            go_wp2_with fail
            go_meet
            obtain ⟨f0, f1, f2, f3⟩ := set4 hPQ p0 p1 q0 q1 (.int .u32 (F : Int)) (.int .i64 (m : Int)) (.int .u32 (G : Int)) (.int .i64 (n : Int))
            exact ⟨P, Q, rfl, rfl, by simpa using hPy, by simpa using hQy, f0, f1, f2, f3, B1.trans (hHeld.2.2.mono (Nat.le_of_lt s1))⟩
          exact AllReadyH.nil
        refine AllReadyH.cons (o := _) rfl (fun K hK => ?_) ?_
        · go_simp
          refine hK.out _ _ (MK.out _ (hHeld.2.2.alloc hHeld.2.2.size _)) (fun hHeld2 => ?_)
          have q0 : Own ((w2.alloc (.cells #[.int .u32 0, .int .i64 0] 29)).alloc (.cells #[.int .u32 0, .int .i64 0] 29)) ⟨w2.heap.size + 1, 0, none⟩ (.int .u32 0) := Own.new0 (by simp)
          have q1 : Own ((w2.alloc (.cells #[.int .u32 0, .int .i64 0] 29)).alloc (.cells #[.int .u32 0, .int .i64 0] 29)) ⟨w2.heap.size + 1, 1, none⟩ (.int .i64 0) := Own.new1 (by simp)
          have p0 := Own.old (o := (.cells #[.int .u32 0, .int .i64 0] 29)) p0
          have p1 := Own.old (o := (.cells #[.int .u32 0, .int .i64 0] 29)) p1
          clear hHeld
          have hHeld := hHeld2
          clear hHeld2 hK K
          try simp only [Act.put, List.setIfInBounds_toArray, List.set_cons_zero, List.set_cons_succ]
          refine wpAnyH_ready (rs := [17]) (by kernel_rfl) (by simp) ?_
          refine AllReadyH.cons (o := _) rfl (fun K hK => ?_) ?_
          · go_simp
            refine (c2 _).mono ?_
            rintro e w3 ⟨rfl, hbv⟩
            have hbvs : w2.heap.size + 2 ≤ w3.heap.size := by have h := hbv.size; (try simp only [World.size_alloc] at h); omega
            have p0 := Own.kept hbv p0
            have p1 := Own.kept hbv p1
            have q0 := Own.kept hbv q0
            have q1 := Own.kept hbv q1
            show K _ w3
            refine hK.out _ _ (MK.out _ (hHeld.2.2.trans (hbv.mono hHeld.2.2.size))) (fun hHeld2 => ?_)
            clear hHeld
            have hHeld := hHeld2
            clear hHeld2 hK K
            try simp only [Act.put, List.setIfInBounds_toArray, List.set_cons_zero, List.set_cons_succ]
            have hPQ : ¬ w2.heap.size = w2.heap.size + 1 := by omega
            have hP : w1.heap.size ≤ w2.heap.size := by omega
            have hQ : w1.heap.size ≤ w2.heap.size + 1 := by omega
            have hPy : w2.heap.size < w3.heap.size := World.block_lt_of_cell? _ _ p0.1
            have hQy : w2.heap.size + 1 < w3.heap.size := World.block_lt_of_cell? _ _ q0.1
            have hB : Below w1.heap.size w1 w3 := hHeld.2.2
            clear hHeld
            generalize w2.heap.size + 1 = Q at q0 q1 hPQ hQ hQy ⊢
            generalize w2.heap.size = P at p0 p1 hPQ hP hPy ⊢
            refine wpAnyH_ready (rs := [20]) (by kernel_rfl) (by simp) ?_
            refine AllReadyH.cons (o := _) rfl (fun K hK => ?_) AllReadyH.nil
            have x0 := p0.1
            have x1 := p1.1
            have x2 := q0.1
            have x3 := q1.1
            have y0 := p0.2
            have y1 := p1.2
            have y2 := q0.2
            have y3 := q1.2
            go_simp
            refine hK.out _ _ (MK.out _ ((hB.setCell hP _).setCell hP _)) (fun hHeld => ?_)
            clear hK K
            try simp only [Act.put, List.setIfInBounds_toArray, List.set_cons_zero, List.set_cons_succ]
            refine wpAnyH_ready (rs := [21]) (by kernel_rfl) (by simp) ?_
            refine AllReadyH.cons (o := _) rfl (fun K hK => ?_) AllReadyH.nil
            go_simp
            refine hK.out _ _ (MK.out _ ((((hB.setCell hP _).setCell hP _).setCell hQ _).setCell hQ _)) (fun hHeld => ?_)
            clear hK K
            try simp only [Act.put, List.setIfInBounds_toArray, List.set_cons_zero, List.set_cons_succ]
            refine wpAnyH_done (by kernel_rfl) ?_ _
            go_wp2_with fail
            go_meet
            obtain ⟨f0, f1, f2, f3⟩ := set4 hPQ p0 p1 q0 q1 (.int .u32 (F : Int)) (.int .i64 (m : Int)) (.int .u32 (G : Int)) (.int .i64 (n : Int))
            exact ⟨P, Q, rfl, rfl, by simpa using hPy, by simpa using hQy, f0, f1, f2, f3, B1.trans (hHeld.2.2.mono (Nat.le_of_lt s1))⟩
          exact AllReadyH.nil
        exact AllReadyH.nil
      refine AllReadyH.cons (o := _) rfl (fun K hK => ?_) ?_
      · go_simp
        refine hK.out _ _ (MK.out _ (hHeld.2.2.alloc hHeld.2.2.size _)) (fun hHeld2 => ?_)
        have q0 : Own (w2.alloc (.cells #[.int .u32 0, .int .i64 0] 29)) ⟨w2.heap.size, 0, none⟩ (.int .u32 0) := Own.new0 (by simp)
        have q1 : Own (w2.alloc (.cells #[.int .u32 0, .int .i64 0] 29)) ⟨w2.heap.size, 1, none⟩ (.int .i64 0) := Own.new1 (by simp)
        clear hHeld
        have hHeld := hHeld2
        clear hHeld2 hK K
        try simp only [Act.put, List.setIfInBounds_toArray, List.set_cons_zero, List.set_cons_succ]
        refine wpAnyH_ready (rs := [17, 18]) (by kernel_rfl) (by simp) ?_
        refine AllReadyH.cons (o := _) rfl (fun K hK => ?_) ?_
        · go_simp
          refine (c2 _).mono ?_
          rintro e w3 ⟨rfl, hbv⟩
          have hbvs : w2.heap.size + 1 ≤ w3.heap.size := by have h := hbv.size; (try simp only [World.size_alloc] at h); omega
          have q0 := Own.kept hbv q0
          have q1 := Own.kept hbv q1
          show K _ w3
          refine hK.out _ _ (MK.out _ (hHeld.2.2.trans (hbv.mono hHeld.2.2.size))) (fun hHeld2 => ?_)
          clear hHeld
          have hHeld := hHeld2
          clear hHeld2 hK K
          try simp only [Act.put, List.setIfInBounds_toArray, List.set_cons_zero, List.set_cons_succ]
          refine wpAnyH_ready (rs := [18]) (by kernel_rfl) (by simp) ?_
          refine AllReadyH.cons (o := _) rfl (fun K hK => ?_) ?_
          · go_simp
            refine hK.out _ _ (MK.out _ (hHeld.2.2.alloc hHeld.2.2.size _)) (fun hHeld2 => ?_)
            have p0 : Own (w3.alloc (.cells #[.int .u32 0, .int .i64 0] 29)) ⟨w3.heap.size, 0, none⟩ (.int .u32 0) := Own.new0 (by simp)
            have p1 : Own (w3.alloc (.cells #[.int .u32 0, .int .i64 0] 29)) ⟨w3.heap.size, 1, none⟩ (.int .i64 0) := Own.new1 (by simp)
            have q0 := Own.old (o := (.cells #[.int .u32 0, .int .i64 0] 29)) q0
            have q1 := Own.old (o := (.cells #[.int .u32 0, .int .i64 0] 29)) q1
            clear hHeld
            have hHeld := hHeld2
            clear hHeld2 hK K
            try simp only [Act.put, List.setIfInBounds_toArray, List.set_cons_zero, List.set_cons_succ]
            have hPQ : ¬ w3.heap.size = w2.heap.size := by omega
            have hP : w1.heap.size ≤ w3.heap.size := by omega
            have hQ : w1.heap.size ≤ w2.heap.size := by omega
            have hPy : w3.heap.size < (w3.alloc (.cells #[.int .u32 0, .int .i64 0] 29)).heap.size := World.block_lt_of_cell? _ _ p0.1
            have hQy : w2.heap.size < (w3.alloc (.cells #[.int .u32 0, .int .i64 0] 29)).heap.size := World.block_lt_of_cell? _ _ q0.1
            have hB : Below w1.heap.size w1 (w3.alloc (.cells #[.int .u32 0, .int .i64 0] 29)) := hHeld.2.2
            clear hHeld
            generalize (w3.alloc (.cells #[.int .u32 0, .int .i64 0] 29)) = Y at p0 p1 q0 q1 hPy hQy hB ⊢
            generalize w3.heap.size = P at p0 p1 hPQ hP hPy ⊢
            generalize w2.heap.size = Q at q0 q1 hPQ hQ hQy ⊢
            refine wpAnyH_ready (rs := [20]) (by kernel_rfl) (by simp) ?_
            refine AllReadyH.cons (o := _) rfl (fun K hK => ?_) AllReadyH.nil
            have x0 := p0.1
            have x1 := p1.1
            have x2 := q0.1
            have x3 := q1.1
            have y0 := p0.2
            have y1 := p1.2
            have y2 := q0.2
            have y3 := q1.2
            go_simp
            refine hK.out _ _ (MK.out _ ((hB.setCell hP _).setCell hP _)) (fun hHeld => ?_)
            clear hK K
            try simp only [Act.put, List.setIfInBounds_toArray, List.set_cons_zero, List.set_cons_succ]
            refine wpAnyH_ready (rs := [21]) (by kernel_rfl) (by simp) ?_
            refine AllReadyH.cons (o := _) rfl (fun K hK => ?_) AllReadyH.nil
            go_simp
            refine hK.out _ _ (MK.out _ ((((hB.setCell hP _).setCell hP _).setCell hQ _).setCell hQ _)) (fun hHeld => ?_)
            clear hK K
            try simp only [Act.put, List.setIfInBounds_toArray, List.set_cons_zero, List.set_cons_succ]
            refine wpAnyH_done (by kernel_rfl) ?_ _
            go_wp2_with fail
            go_meet
            obtain ⟨f0, f1, f2, f3⟩ := set4 hPQ p0 p1 q0 q1 (.int .u32 (F : Int)) (.int .i64 (m : Int)) (.int .u32 (G : Int)) (.int .i64 (n : Int))
            exact ⟨P, Q, rfl, rfl, by simpa using hPy, by simpa using hQy, f0, f1, f2, f3, B1.trans (hHeld.2.2.mono (Nat.le_of_lt s1))⟩
          exact AllReadyH.nil
        refine AllReadyH.cons (o := _) rfl (fun K hK => ?_) ?_
        · go_simp
          refine hK.out _ _ (MK.out _ (hHeld.2.2.alloc hHeld.2.2.size _)) (fun hHeld2 => ?_)
          have p0 : Own ((w2.alloc (.cells #[.int .u32 0, .int .i64 0] 29)).alloc (.cells #[.int .u32 0, .int .i64 0] 29)) ⟨w2.heap.size + 1, 0, none⟩ (.int .u32 0) := Own.new0 (by simp)
          have p1 : Own ((w2.alloc (.cells #[.int .u32 0, .int .i64 0] 29)).alloc (.cells #[.int .u32 0, .int .i64 0] 29)) ⟨w2.heap.size + 1, 1, none⟩ (.int .i64 0) := Own.new1 (by simp)
          have q0 := Own.old (o := (.cells #[.int .u32 0, .int .i64 0] 29)) q0
          have q1 := Own.old (o := (.cells #[.int .u32 0, .int .i64 0] 29)) q1
          clear hHeld
          have hHeld := hHeld2
          clear hHeld2 hK K
          try simp only [Act.put, List.setIfInBounds_toArray, List.set_cons_zero, List.set_cons_succ]
          refine wpAnyH_ready (rs := [17]) (by kernel_rfl) (by simp) ?_
          refine AllReadyH.cons (o := _) rfl (fun K hK => ?_) ?_
          · go_simp
            refine (c2 _).mono ?_
            rintro e w3 ⟨rfl, hbv⟩
            have hbvs : w2.heap.size + 2 ≤ w3.heap.size := by have h := hbv.size; (try simp only [World.size_alloc] at h); omega
            have p0 := Own.kept hbv p0
            have p1 := Own.kept hbv p1
            have q0 := Own.kept hbv q0
            have q1 := Own.kept hbv q1
            show K _ w3
            refine hK.out _ _ (MK.out _ (hHeld.2.2.trans (hbv.mono hHeld.2.2.size))) (fun hHeld2 => ?_)
            clear hHeld
            have hHeld := hHeld2
            clear hHeld2 hK K
            try simp only [Act.put, List.setIfInBounds_toArray, List.set_cons_zero, List.set_cons_succ]
            have hPQ : ¬ w2.heap.size + 1 = w2.heap.size := by omega
            have hP : w1.heap.size ≤ w2.heap.size + 1 := by omega
            have hQ : w1.heap.size ≤ w2.heap.size := by omega
            have hPy : w2.heap.size + 1 < w3.heap.size := World.block_lt_of_cell? _ _ p0.1
            have hQy : w2.heap.size < w3.heap.size := World.block_lt_of_cell? _ _ q0.1
            have hB : Below w1.heap.size w1 w3 := hHeld.2.2
            clear hHeld
            generalize w2.heap.size + 1 = P at p0 p1 hPQ hP hPy ⊢
            generalize w2.heap.size = Q at q0 q1 hPQ hQ hQy ⊢
            refine wpAnyH_ready (rs := [20]) (by kernel_rfl) (by simp) ?_
            refine AllReadyH.cons (o := _) rfl (fun K hK => ?_) AllReadyH.nil
            have x0 := p0.1
            have x1 := p1.1
            have x2 := q0.1
            have x3 := q1.1
            have y0 := p0.2
            have y1 := p1.2
            have y2 := q0.2
            have y3 := q1.2
            go_simp
            refine hK.out _ _ (MK.out _ ((hB.setCell hP _).setCell hP _)) (fun hHeld => ?_)
            clear hK K
            try simp only [Act.put, List.setIfInBounds_toArray, List.set_cons_zero, List.set_cons_succ]
            refine wpAnyH_ready (rs := [21]) (by kernel_rfl) (by simp) ?_
            refine AllReadyH.cons (o := _) rfl (fun K hK => ?_) AllReadyH.nil
            go_simp
            refine hK.out _ _ (MK.out _ ((((hB.setCell hP _).setCell hP _).setCell hQ _).setCell hQ _)) (fun hHeld => ?_)
            clear hK K
            try simp only [Act.put, List.setIfInBounds_toArray, List.set_cons_zero, List.set_cons_succ]
            refine wpAnyH_done (by kernel_rfl) ?_ _
            go_wp2_with fail
            go_meet
            obtain ⟨f0, f1, f2, f3⟩ := set4 hPQ p0 p1 q0 q1 (.int .u32 (F : Int)) (.int .i64 (m : Int)) (.int .u32 (G : Int)) (.int .i64 (n : Int))
            exact ⟨P, Q, rfl, rfl, by simpa using hPy, by simpa using hQy, f0, f1, f2, f3, B1.trans (hHeld.2.2.mono (Nat.le_of_lt s1))⟩
          exact AllReadyH.nil
        exact AllReadyH.nil
      exact AllReadyH.nil
    refine AllReadyH.cons (o := _) rfl (fun K hK => ?_) ?_
    · go_simp
      refine hK.out _ _ (MK.out _ (hHeld.2.2.alloc hHeld.2.2.size _)) (fun hHeld2 => ?_)
      have p0 : Own (wd.alloc (.cells #[.int .u32 0, .int .i64 0] 29)) ⟨wd.heap.size, 0, none⟩ (.int .u32 0) := Own.new0 (by simp)
      have p1 : Own (wd.alloc (.cells #[.int .u32 0, .int .i64 0] 29)) ⟨wd.heap.size, 1, none⟩ (.int .i64 0) := Own.new1 (by simp)
      clear hHeld
      have hHeld := hHeld2
      clear hHeld2 hK K
      try simp only [Act.put, List.setIfInBounds_toArray, List.set_cons_zero, List.set_cons_succ]
      refine wpAnyH_ready (rs := [8, 19]) (by kernel_rfl) (by simp) ?_
      refine AllReadyH.cons (o := _) rfl (fun K hK => ?_) ?_
      · go_simp
        refine (c1 _).mono ?_
        rintro e w2 ⟨rfl, hbw⟩
        have hbws : wd.heap.size + 1 ≤ w2.heap.size := by have h := hbw.size; (try simp only [World.size_alloc] at h); omega
        have p0 := Own.kept hbw p0
        have p1 := Own.kept hbw p1
        show K _ w2
        refine hK.out _ _ (MK.out _ (hHeld.2.2.trans (hbw.mono hHeld.2.2.size))) (fun hHeld2 => ?_)
        clear hHeld
        have hHeld := hHeld2
        clear hHeld2 hK K
        try simp only [Act.put, List.setIfInBounds_toArray, List.set_cons_zero, List.set_cons_succ]
        refine wpAnyH_ready (rs := [17, 19]) (by kernel_rfl) (by simp) ?_
        refine AllReadyH.cons (o := _) rfl (fun K hK => ?_) ?_
        · go_simp
          refine (c2 _).mono ?_
          rintro e w3 ⟨rfl, hbv⟩
          have hbvs : w2.heap.size + 0 ≤ w3.heap.size := by have h := hbv.size; (try simp only [World.size_alloc] at h); omega
          have p0 := Own.kept hbv p0
          have p1 := Own.kept hbv p1
          show K _ w3
          refine hK.out _ _ (MK.out _ (hHeld.2.2.trans (hbv.mono hHeld.2.2.size))) (fun hHeld2 => ?_)
          clear hHeld
          have hHeld := hHeld2
          clear hHeld2 hK K
          try simp only [Act.put, List.setIfInBounds_toArray, List.set_cons_zero, List.set_cons_succ]
          refine wpAnyH_ready (rs := [19]) (by kernel_rfl) (by simp) ?_
          refine AllReadyH.cons (o := _) rfl (fun K hK => ?_) ?_
          · go_simp
            refine hK.out _ _ (MK.out _ (hHeld.2.2.alloc hHeld.2.2.size _)) (fun hHeld2 => ?_)
            have q0 : Own (w3.alloc (.cells #[.int .u32 0, .int .i64 0] 29)) ⟨w3.heap.size, 0, none⟩ (.int .u32 0) := Own.new0 (by simp)
            have q1 : Own (w3.alloc (.cells #[.int .u32 0, .int .i64 0] 29)) ⟨w3.heap.size, 1, none⟩ (.int .i64 0) := Own.new1 (by simp)
            have p0 := Own.old (o := (.cells #[.int .u32 0, .int .i64 0] 29)) p0
            have p1 := Own.old (o := (.cells #[.int .u32 0, .int .i64 0] 29)) p1
            clear hHeld
            have hHeld := hHeld2
            clear hHeld2 hK K
            try simp only [Act.put, List.setIfInBounds_toArray, List.set_cons_zero, List.set_cons_succ]
            have hPQ : ¬ wd.heap.size = w3.heap.size := by omega
            have hP : w1.heap.size ≤ wd.heap.size := by omega
            have hQ : w1.heap.size ≤ w3.heap.size := by omega
            have hPy : wd.heap.size < (w3.alloc (.cells #[.int .u32 0, .int .i64 0] 29)).heap.size := World.block_lt_of_cell? _ _ p0.1
            have hQy : w3.heap.size < (w3.alloc (.cells #[.int .u32 0, .int .i64 0] 29)).heap.size := World.block_lt_of_cell? _ _ q0.1
            have hB : Below w1.heap.size w1 (w3.alloc (.cells #[.int .u32 0, .int .i64 0] 29)) := hHeld.2.2
            clear hHeld
            generalize (w3.alloc (.cells #[.int .u32 0, .int .i64 0] 29)) = Y at p0 p1 q0 q1 hPy hQy hB ⊢
            generalize wd.heap.size = P at p0 p1 hPQ hP hPy ⊢
            generalize w3.heap.size = Q at q0 q1 hPQ hQ hQy ⊢
            refine wpAnyH_ready (rs := [20]) (by kernel_rfl) (by simp) ?_
            refine AllReadyH.cons (o := _) rfl (fun K hK => ?_) AllReadyH.nil
            have x0 := p0.1
            have x1 := p1.1
            have x2 := q0.1
            have x3 := q1.1
            have y0 := p0.2
            have y1 := p1.2
            have y2 := q0.2
            have y3 := q1.2
            go_simp
            refine hK.out _ _ (MK.out _ ((hB.setCell hP _).setCell hP _)) (fun hHeld => ?_)
            clear hK K
            try simp only [Act.put, List.setIfInBounds_toArray, List.set_cons_zero, List.set_cons_succ]
            refine wpAnyH_ready (rs := [21]) (by kernel_rfl) (by simp) ?_
            refine AllReadyH.cons (o := _) rfl (fun K hK => ?_) AllReadyH.nil
            go_simp
            refine hK.out _ _ (MK.out _ ((((hB.setCell hP _).setCell hP _).setCell hQ _).setCell hQ _)) (fun hHeld => ?_)
            clear hK K
            try simp only [Act.put, List.setIfInBounds_toArray, List.set_cons_zero, List.set_cons_succ]
            refine wpAnyH_done (by kernel_rfl) ?_ _
            go_wp2_with fail
            go_meet
            obtain ⟨f0, f1, f2, f3⟩ := set4 hPQ p0 p1 q0 q1 (.int .u32 (F : Int)) (.int .i64 (m : Int)) (.int .u32 (G : Int)) (.int .i64 (n : Int))
            exact ⟨P, Q, rfl, rfl, by simpa using hPy, by simpa using hQy, f0, f1, f2, f3, B1.trans (hHeld.2.2.mono (Nat.le_of_lt s1))⟩
          exact AllReadyH.nil
        refine AllReadyH.cons (o := _) rfl (fun K hK => ?_) ?_
        · go_simp
          refine hK.out _ _ (MK.out _ (hHeld.2.2.alloc hHeld.2.2.size _)) (fun hHeld2 => ?_)
          have q0 : Own (w2.alloc (.cells #[.int .u32 0, .int .i64 0] 29)) ⟨w2.heap.size, 0, none⟩ (.int .u32 0) := Own.new0 (by simp)
          have q1 : Own (w2.alloc (.cells #[.int .u32 0, .int .i64 0] 29)) ⟨w2.heap.size, 1, none⟩ (.int .i64 0) := Own.new1 (by simp)
          have p0 := Own.old (o := (.cells #[.int .u32 0, .int .i64 0] 29)) p0
          have p1 := Own.old (o := (.cells #[.int .u32 0, .int .i64 0] 29)) p1
          clear hHeld
          have hHeld := hHeld2
          clear hHeld2 hK K
          try simp only [Act.put, List.setIfInBounds_toArray, List.set_cons_zero, List.set_cons_succ]
          refine wpAnyH_ready (rs := [17]) (by kernel_rfl) (by simp) ?_
          refine AllReadyH.cons (o := _) rfl (fun K hK => ?_) ?_
          · go_simp
            refine (c2 _).mono ?_
            rintro e w3 ⟨rfl, hbv⟩
            have hbvs : w2.heap.size + 1 ≤ w3.heap.size := by have h := hbv.size; (try simp only [World.size_alloc] at h); omega
            have p0 := Own.kept hbv p0
            have p1 := Own.kept hbv p1
            have q0 := Own.kept hbv q0
            have q1 := Own.kept hbv q1
            show K _ w3
            refine hK.out _ _ (MK.out _ (hHeld.2.2.trans (hbv.mono hHeld.2.2.size))) (fun hHeld2 => ?_)
            clear hHeld
            have hHeld := hHeld2
            clear hHeld2 hK K
            try simp only [Act.put, List.setIfInBounds_toArray, List.set_cons_zero, List.set_cons_succ]
            have hPQ : ¬ wd.heap.size = w2.heap.size := by omega
            have hP : w1.heap.size ≤ wd.heap.size := by omega
            have hQ : w1.heap.size ≤ w2.heap.size := by omega
            have hPy : wd.heap.size < w3.heap.size := World.block_lt_of_cell? _ _ p0.1
            have hQy : w2.heap.size < w3.heap.size := World.block_lt_of_cell? _ _ q0.1
            have hB : Below w1.heap.size w1 w3 := hHeld.2.2
            clear hHeld
            generalize wd.heap.size = P at p0 p1 hPQ hP hPy ⊢
            generalize w2.heap.size = Q at q0 q1 hPQ hQ hQy ⊢
            refine wpAnyH_ready (rs := [20]) (by kernel_rfl) (by simp) ?_
            refine AllReadyH.cons (o := _) rfl (fun K hK => ?_) AllReadyH.nil
            have x0 := p0.1
            have x1 := p1.1
            have x2 := q0.1
            have x3 := q1.1
            have y0 := p0.2
            have y1 := p1.2
            have y2 := q0.2
            have y3 := q1.2
            go_simp
            refine hK.out _ _ (MK.out _ ((hB.setCell hP _).setCell hP _)) (fun hHeld => ?_)
            clear hK K
            try simp only [Act.put, List.setIfInBounds_toArray, List.set_cons_zero, List.set_cons_succ]
            refine wpAnyH_ready (rs := [21]) (by kernel_rfl) (by simp) ?_
            refine AllReadyH.cons (o := _) rfl (fun K hK => ?_) AllReadyH.nil
            go_simp
            refine hK.out _ _ (MK.out _ ((((hB.setCell hP _).setCell hP _).setCell hQ _).setCell hQ _)) (fun hHeld => ?_)
            clear hK K
            try simp only [Act.put, List.setIfInBounds_toArray, List.set_cons_zero, List.set_cons_succ]
            refine wpAnyH_done (by kernel_rfl) ?_ _
            go_wp2_with fail
            go_meet
            obtain ⟨f0, f1, f2, f3⟩ := set4 hPQ p0 p1 q0 q1 (.int .u32 (F : Int)) (.int .i64 (m : Int)) (.int .u32 (G : Int)) (.int .i64 (n : Int))
            exact ⟨P, Q, rfl, rfl, by simpa using hPy, by simpa using hQy, f0, f1, f2, f3, B1.trans (hHeld.2.2.mono (Nat.le_of_lt s1))⟩
          exact AllReadyH.nil
        exact AllReadyH.nil
      refine AllReadyH.cons (o := _) rfl (fun K hK => ?_) ?_
      · go_simp
        refine hK.out _ _ (MK.out _ (hHeld.2.2.alloc hHeld.2.2.size _)) (fun hHeld2 => ?_)
        have q0 : Own ((wd.alloc (.cells #[.int .u32 0, .int .i64 0] 29)).alloc (.cells #[.int .u32 0, .int .i64 0] 29)) ⟨wd.heap.size + 1, 0, none⟩ (.int .u32 0) := Own.new0 (by simp)
        have q1 : Own ((wd.alloc (.cells #[.int .u32 0, .int .i64 0] 29)).alloc (.cells #[.int .u32 0, .int .i64 0] 29)) ⟨wd.heap.size + 1, 1, none⟩ (.int .i64 0) := Own.new1 (by simp)
        have p0 := Own.old (o := (.cells #[.int .u32 0, .int .i64 0] 29)) p0
        have p1 := Own.old (o := (.cells #[.int .u32 0, .int .i64 0] 29)) p1
        clear hHeld
        have hHeld := hHeld2
        clear hHeld2 hK K
        try simp only [Act.put, List.setIfInBounds_toArray, List.set_cons_zero, List.set_cons_succ]
        refine wpAnyH_ready (rs := [8]) (by kernel_rfl) (by simp) ?_
        refine AllReadyH.cons (o := _) rfl (fun K hK => ?_) ?_
        · go_simp
          refine (c1 _).mono ?_
          rintro e w2 ⟨rfl, hbw⟩
          have hbws : wd.heap.size + 2 ≤ w2.heap.size := by have h := hbw.size; (try simp only [World.size_alloc] at h); omega
          have p0 := Own.kept hbw p0
          have p1 := Own.kept hbw p1
          have q0 := Own.kept hbw q0
          have q1 := Own.kept hbw q1
          show K _ w2
          refine hK.out _ _ (MK.out _ (hHeld.2.2.trans (hbw.mono hHeld.2.2.size))) (fun hHeld2 => ?_)
          clear hHeld
          have hHeld := hHeld2
          clear hHeld2 hK K
          try simp only [Act.put, List.setIfInBounds_toArray, List.set_cons_zero, List.set_cons_succ]
          refine wpAnyH_ready (rs := [17]) (by kernel_rfl) (by simp) ?_
          refine AllReadyH.cons (o := _) rfl (fun K hK => ?_) ?_
          · go_simp
            refine (c2 _).mono ?_
            rintro e w3 ⟨rfl, hbv⟩
            have hbvs : w2.heap.size + 0 ≤ w3.heap.size := by have h := hbv.size; (try simp only [World.size_alloc] at h); omega
            have p0 := Own.kept hbv p0
            have p1 := Own.kept hbv p1
            have q0 := Own.kept hbv q0
            have q1 := Own.kept hbv q1
            show K _ w3
            refine hK.out _ _ (MK.out _ (hHeld.2.2.trans (hbv.mono hHeld.2.2.size))) (fun hHeld2 => ?_)
            clear hHeld
            have hHeld := hHeld2
            clear hHeld2 hK K
            try simp only [Act.put, List.setIfInBounds_toArray, List.set_cons_zero, List.set_cons_succ]
            have hPQ : ¬ wd.heap.size = wd.heap.size + 1 := by omega
            have hP : w1.heap.size ≤ wd.heap.size := by omega
            have hQ : w1.heap.size ≤ wd.heap.size + 1 := by omega
            have hPy : wd.heap.size < w3.heap.size := World.block_lt_of_cell? _ _ p0.1
            have hQy : wd.heap.size + 1 < w3.heap.size := World.block_lt_of_cell? _ _ q0.1
            have hB : Below w1.heap.size w1 w3 := hHeld.2.2
            clear hHeld
            generalize wd.heap.size + 1 = Q at q0 q1 hPQ hQ hQy ⊢
            generalize wd.heap.size = P at p0 p1 hPQ hP hPy ⊢
            refine wpAnyH_ready (rs := [20]) (by kernel_rfl) (by simp) ?_
            refine AllReadyH.cons (o := _) rfl (fun K hK => ?_) AllReadyH.nil
            have x0 := p0.1
            have x1 := p1.1
            have x2 := q0.1
            have x3 := q1.1
            have y0 := p0.2
            have y1 := p1.2
            have y2 := q0.2
            have y3 := q1.2
            go_simp
            refine hK.out _ _ (MK.out _ ((hB.setCell hP _).setCell hP _)) (fun hHeld => ?_)
            clear hK K
            try simp only [Act.put, List.setIfInBounds_toArray, List.set_cons_zero, List.set_cons_succ]
            refine wpAnyH_ready (rs := [21]) (by kernel_rfl) (by simp) ?_
            refine AllReadyH.cons (o := _) rfl (fun K hK => ?_) AllReadyH.nil
            go_simp
            refine hK.out _ _ (MK.out _ ((((hB.setCell hP _).setCell hP _).setCell hQ _).setCell hQ _)) (fun hHeld => ?_)
            clear hK K
            try simp only [Act.put, List.setIfInBounds_toArray, List.set_cons_zero, List.set_cons_succ]
            refine wpAnyH_done (by kernel_rfl) ?_ _
            go_wp2_with fail
            go_meet
            obtain ⟨f0, f1, f2, f3⟩ := set4 hPQ p0 p1 q0 q1 (.int .u32 (F : Int)) (.int .i64 (m : Int)) (.int .u32 (G : Int)) (.int .i64 (n : Int))
            exact ⟨P, Q, rfl, rfl, by simpa using hPy, by simpa using hQy, f0, f1, f2, f3, B1.trans (hHeld.2.2.mono (Nat.le_of_lt s1))⟩
          exact AllReadyH.nil
        exact AllReadyH.nil
      exact AllReadyH.nil
    refine AllReadyH.cons (o := _) rfl (fun K hK => ?_) ?_
    · go_simp
      refine hK.out _ _ (MK.out _ (hHeld.2.2.alloc hHeld.2.2.size _)) (fun hHeld2 => ?_)
      have q0 : Own (wd.alloc (.cells #[.int .u32 0, .int .i64 0] 29)) ⟨wd.heap.size, 0, none⟩ (.int .u32 0) := Own.new0 (by simp)
      have q1 : Own (wd.alloc (.cells #[.int .u32 0, .int .i64 0] 29)) ⟨wd.heap.size, 1, none⟩ (.int .i64 0) := Own.new1 (by simp)
      clear hHeld
      have hHeld := hHeld2
      clear hHeld2 hK K
      try simp only [Act.put, List.setIfInBounds_toArray, List.set_cons_zero, List.set_cons_succ]
      refine wpAnyH_ready (rs := [8, 18]) (by kernel_rfl) (by simp) ?_
      refine AllReadyH.cons (o := _) rfl (fun K hK => ?_) ?_
      · go_simp
        refine (c1 _).mono ?_
        rintro e w2 ⟨rfl, hbw⟩
        have hbws : wd.heap.size + 1 ≤ w2.heap.size := by have h := hbw.size; (try simp only [World.size_alloc] at h); omega
        have q0 := Own.kept hbw q0
        have q1 := Own.kept hbw q1
        show K _ w2
        refine hK.out _ _ (MK.out _ (hHeld.2.2.trans (hbw.mono hHeld.2.2.size))) (fun hHeld2 => ?_)
        clear hHeld
        have hHeld := hHeld2
        clear hHeld2 hK K
        try simp only [Act.put, List.setIfInBounds_toArray, List.set_cons_zero, List.set_cons_succ]
        refine wpAnyH_ready (rs := [17, 18]) (by kernel_rfl) (by simp) ?_
        refine AllReadyH.cons (o := _) rfl (fun K hK => ?_) ?_
        · go_simp
          refine (c2 _).mono ?_
          rintro e w3 ⟨rfl, hbv⟩
          have hbvs : w2.heap.size + 0 ≤ w3.heap.size := by have h := hbv.size; (try simp only [World.size_alloc] at h); omega
          have q0 := Own.kept hbv q0
          have q1 := Own.kept hbv q1
          show K _ w3
          refine hK.out _ _ (MK.out _ (hHeld.2.2.trans (hbv.mono hHeld.2.2.size))) (fun hHeld2 => ?_)
          clear hHeld
          have hHeld := hHeld2
          clear hHeld2 hK K
          try simp only [Act.put, List.setIfInBounds_toArray, List.set_cons_zero, List.set_cons_succ]
          refine wpAnyH_ready (rs := [18]) (by kernel_rfl) (by simp) ?_
          refine AllReadyH.cons (o := _) rfl (fun K hK => ?_) ?_
          · go_simp
            refine hK.out _ _ (MK.out _ (hHeld.2.2.alloc hHeld.2.2.size _)) (fun hHeld2 => ?_)
            have p0 : Own (w3.alloc (.cells #[.int .u32 0, .int .i64 0] 29)) ⟨w3.heap.size, 0, none⟩ (.int .u32 0) := Own.new0 (by simp)
            have p1 : Own (w3.alloc (.cells #[.int .u32 0, .int .i64 0] 29)) ⟨w3.heap.size, 1, none⟩ (.int .i64 0) := Own.new1 (by simp)
            have q0 := Own.old (o := (.cells #[.int .u32 0, .int .i64 0] 29)) q0
            have q1 := Own.old (o := (.cells #[.int .u32 0, .int .i64 0] 29)) q1
            clear hHeld
            have hHeld := hHeld2
            clear hHeld2 hK K
            try simp only [Act.put, List.setIfInBounds_toArray, List.set_cons_zero, List.set_cons_succ]
            have hPQ : ¬ w3.heap.size = wd.heap.size := by omega
            have hP : w1.heap.size ≤ w3.heap.size := by omega
            have hQ : w1.heap.size ≤ wd.heap.size := by omega
            have hPy : w3.heap.size < (w3.alloc (.cells #[.int .u32 0, .int .i64 0] 29)).heap.size := World.block_lt_of_cell? _ _ p0.1
            have hQy : wd.heap.size < (w3.alloc (.cells #[.int .u32 0, .int .i64 0] 29)).heap.size := World.block_lt_of_cell? _ _ q0.1
            have hB : Below w1.heap.size w1 (w3.alloc (.cells #[.int .u32 0, .int .i64 0] 29)) := hHeld.2.2
            clear hHeld
            generalize (w3.alloc (.cells #[.int .u32 0, .int .i64 0] 29)) = Y at p0 p1 q0 q1 hPy hQy hB ⊢
            generalize w3.heap.size = P at p0 p1 hPQ hP hPy ⊢
            generalize wd.heap.size = Q at q0 q1 hPQ hQ hQy ⊢
            refine wpAnyH_ready (rs := [20]) (by kernel_rfl) (by simp) ?_
            refine AllReadyH.cons (o := _) rfl (fun K hK => ?_) AllReadyH.nil
            have x0 := p0.1
            have x1 := p1.1
            have x2 := q0.1
            have x3 := q1.1
            have y0 := p0.2
            have y1 := p1.2
            have y2 := q0.2
            have y3 := q1.2
            go_simp
            refine hK.out _ _ (MK.out _ ((hB.setCell hP _).setCell hP _)) (fun hHeld => ?_)
            clear hK K
            try simp only [Act.put, List.setIfInBounds_toArray, List.set_cons_zero, List.set_cons_succ]
            refine wpAnyH_ready (rs := [21]) (by kernel_rfl) (by simp) ?_
            refine AllReadyH.cons (o := _) rfl (fun K hK => ?_) AllReadyH.nil
            go_simp
            refine hK.out _ _ (MK.out _ ((((hB.setCell hP _).setCell hP _).setCell hQ _).setCell hQ _)) (fun hHeld => ?_)
            clear hK K
            try simp only [Act.put, List.setIfInBounds_toArray, List.set_cons_zero, List.set_cons_succ]
            refine wpAnyH_done (by kernel_rfl) ?_ _
            go_wp2_with fail
            go_meet
            obtain ⟨f0, f1, f2, f3⟩ := set4 hPQ p0 p1 q0 q1 (.int .u32 (F : Int)) (.int .i64 (m : Int)) (.int .u32 (G : Int)) (.int .i64 (n : Int))
            exact ⟨P, Q, rfl, rfl, by simpa using hPy, by simpa using hQy, f0, f1, f2, f3, B1.trans (hHeld.2.2.mono (Nat.le_of_lt s1))⟩
          exact AllReadyH.nil
        refine AllReadyH.cons (o := _) rfl (fun K hK => ?_) ?_
        · go_simp
          refine hK.out _ _ (MK.out _ (hHeld.2.2.alloc hHeld.2.2.size _)) (fun hHeld2 => ?_)
          have p0 : Own (w2.alloc (.cells #[.int .u32 0, .int .i64 0] 29)) ⟨w2.heap.size, 0, none⟩ (.int .u32 0) := Own.new0 (by simp)
          have p1 : Own (w2.alloc (.cells #[.int .u32 0, .int .i64 0] 29)) ⟨w2.heap.size, 1, none⟩ (.int .i64 0) := Own.new1 (by simp)
          have q0 := Own.old (o := (.cells #[.int .u32 0, .int .i64 0] 29)) q0
          have q1 := Own.old (o := (.cells #[.int .u32 0, .int .i64 0] 29)) q1
          clear hHeld
          have hHeld := hHeld2
          clear hHeld2 hK K
          try simp only [Act.put, List.setIfInBounds_toArray, List.set_cons_zero, List.set_cons_succ]
          refine wpAnyH_ready (rs := [17]) (by kernel_rfl) (by simp) ?_
          refine AllReadyH.cons (o := _) rfl (fun K hK => ?_) ?_
          · go_simp
            refine (c2 _).mono ?_
            rintro e w3 ⟨rfl, hbv⟩
            have hbvs : w2.heap.size + 1 ≤ w3.heap.size := by have h := hbv.size; (try simp only [World.size_alloc] at h); omega
            have p0 := Own.kept hbv p0
            have p1 := Own.kept hbv p1
            have q0 := Own.kept hbv q0
            have q1 := Own.kept hbv q1
            show K _ w3
            refine hK.out _ _ (MK.out _ (hHeld.2.2.trans (hbv.mono hHeld.2.2.size))) (fun hHeld2 => ?_)
            clear hHeld
            have hHeld := hHeld2
            clear hHeld2 hK K
            try simp only [Act.put, List.setIfInBounds_toArray, List.set_cons_zero, List.set_cons_succ]
            have hPQ : ¬ w2.heap.size = wd.heap.size := by omega
            have hP : w1.heap.size ≤ w2.heap.size := by omega
            have hQ : w1.heap.size ≤ wd.heap.size := by omega
            have hPy : w2.heap.size < w3.heap.size := World.block_lt_of_cell? _ _ p0.1
            have hQy : wd.heap.size < w3.heap.size := World.block_lt_of_cell? _ _ q0.1
            have hB : Below w1.heap.size w1 w3 := hHeld.2.2
            clear hHeld
            generalize w2.heap.size = P at p0 p1 hPQ hP hPy ⊢
            generalize wd.heap.size = Q at q0 q1 hPQ hQ hQy ⊢
            refine wpAnyH_ready (rs := [20]) (by kernel_rfl) (by simp) ?_
            refine AllReadyH.cons (o := _) rfl (fun K hK => ?_) AllReadyH.nil
            have x0 := p0.1
            have x1 := p1.1
            have x2 := q0.1
            have x3 := q1.1
            have y0 := p0.2
            have y1 := p1.2
            have y2 := q0.2
            have y3 := q1.2
            go_simp
            refine hK.out _ _ (MK.out _ ((hB.setCell hP _).setCell hP _)) (fun hHeld => ?_)
            clear hK K
            try simp only [Act.put, List.setIfInBounds_toArray, List.set_cons_zero, List.set_cons_succ]
            refine wpAnyH_ready (rs := [21]) (by kernel_rfl) (by simp) ?_
            refine AllReadyH.cons (o := _) rfl (fun K hK => ?_) AllReadyH.nil
            go_simp
            refine hK.out _ _ (MK.out _ ((((hB.setCell hP _).setCell hP _).setCell hQ _).setCell hQ _)) (fun hHeld => ?_)
            clear hK K
            try simp only [Act.put, List.setIfInBounds_toArray, List.set_cons_zero, List.set_cons_succ]
            refine wpAnyH_done (by kernel_rfl) ?_ _
            go_wp2_with fail
            go_meet
            obtain ⟨f0, f1, f2, f3⟩ := set4 hPQ p0 p1 q0 q1 (.int .u32 (F : Int)) (.int .i64 (m : Int)) (.int .u32 (G : Int)) (.int .i64 (n : Int))
            exact ⟨P, Q, rfl, rfl, by simpa using hPy, by simpa using hQy, f0, f1, f2, f3, B1.trans (hHeld.2.2.mono (Nat.le_of_lt s1))⟩
          exact AllReadyH.nil
        exact AllReadyH.nil
      refine AllReadyH.cons (o := _) rfl (fun K hK => ?_) ?_
      · go_simp
        refine hK.out _ _ (MK.out _ (hHeld.2.2.alloc hHeld.2.2.size _)) (fun hHeld2 => ?_)
        have p0 : Own ((wd.alloc (.cells #[.int .u32 0, .int .i64 0] 29)).alloc (.cells #[.int .u32 0, .int .i64 0] 29)) ⟨wd.heap.size + 1, 0, none⟩ (.int .u32 0) := Own.new0 (by simp)
        have p1 : Own ((wd.alloc (.cells #[.int .u32 0, .int .i64 0] 29)).alloc (.cells #[.int .u32 0, .int .i64 0] 29)) ⟨wd.heap.size + 1, 1, none⟩ (.int .i64 0) := Own.new1 (by simp)
        have q0 := Own.old (o := (.cells #[.int .u32 0, .int .i64 0] 29)) q0
        have q1 := Own.old (o := (.cells #[.int .u32 0, .int .i64 0] 29)) q1
        clear hHeld
        have hHeld := hHeld2
        clear hHeld2 hK K
        try simp only [Act.put, List.setIfInBounds_toArray, List.set_cons_zero, List.set_cons_succ]
        refine wpAnyH_ready (rs := [8]) (by kernel_rfl) (by simp) ?_
        refine AllReadyH.cons (o := _) rfl (fun K hK => ?_) ?_
        · go_simp
          refine (c1 _).mono ?_
          rintro e w2 ⟨rfl, hbw⟩
          have hbws : wd.heap.size + 2 ≤ w2.heap.size := by have h := hbw.size; (try simp only [World.size_alloc] at h); omega
          have p0 := Own.kept hbw p0
          have p1 := Own.kept hbw p1
          have q0 := Own.kept hbw q0
          have q1 := Own.kept hbw q1
          show K _ w2
          refine hK.out _ _ (MK.out _ (hHeld.2.2.trans (hbw.mono hHeld.2.2.size))) (fun hHeld2 => ?_)
          clear hHeld
          have hHeld := hHeld2
          clear hHeld2 hK K
          try simp only [Act.put, List.setIfInBounds_toArray, List.set_cons_zero, List.set_cons_succ]
          refine wpAnyH_ready (rs := [17]) (by kernel_rfl) (by simp) ?_
          refine AllReadyH.cons (o := _) rfl (fun K hK => ?_) ?_
          · go_simp
            refine (c2 _).mono ?_
            rintro e w3 ⟨rfl, hbv⟩
            have hbvs : w2.heap.size + 0 ≤ w3.heap.size := by have h := hbv.size; (try simp only [World.size_alloc] at h); omega
            have p0 := Own.kept hbv p0
            have p1 := Own.kept hbv p1
            have q0 := Own.kept hbv q0
            have q1 := Own.kept hbv q1
            show K _ w3
            refine hK.out _ _ (MK.out _ (hHeld.2.2.trans (hbv.mono hHeld.2.2.size))) (fun hHeld2 => ?_)
            clear hHeld
            have hHeld := hHeld2
            clear hHeld2 hK K
            try simp only [Act.put, List.setIfInBounds_toArray, List.set_cons_zero, List.set_cons_succ]
            have hPQ : ¬ wd.heap.size + 1 = wd.heap.size := by omega
            have hP : w1.heap.size ≤ wd.heap.size + 1 := by omega
            have hQ : w1.heap.size ≤ wd.heap.size := by omega
            have hPy : wd.heap.size + 1 < w3.heap.size := World.block_lt_of_cell? _ _ p0.1
            have hQy : wd.heap.size < w3.heap.size := World.block_lt_of_cell? _ _ q0.1
            have hB : Below w1.heap.size w1 w3 := hHeld.2.2
            clear hHeld
            generalize wd.heap.size + 1 = P at p0 p1 hPQ hP hPy ⊢
            generalize wd.heap.size = Q at q0 q1 hPQ hQ hQy ⊢
            refine wpAnyH_ready (rs := [20]) (by kernel_rfl) (by simp) ?_
            refine AllReadyH.cons (o := _) rfl (fun K hK => ?_) AllReadyH.nil
            have x0 := p0.1
            have x1 := p1.1
            have x2 := q0.1
            have x3 := q1.1
            have y0 := p0.2
            have y1 := p1.2
            have y2 := q0.2
            have y3 := q1.2
            go_simp
            refine hK.out _ _ (MK.out _ ((hB.setCell hP _).setCell hP _)) (fun hHeld => ?_)
            clear hK K
            try simp only [Act.put, List.setIfInBounds_toArray, List.set_cons_zero, List.set_cons_succ]
            refine wpAnyH_ready (rs := [21]) (by kernel_rfl) (by simp) ?_
            refine AllReadyH.cons (o := _) rfl (fun K hK => ?_) AllReadyH.nil
            go_simp
            refine hK.out _ _ (MK.out _ ((((hB.setCell hP _).setCell hP _).setCell hQ _).setCell hQ _)) (fun hHeld => ?_)
            clear hK K
            try simp only [Act.put, List.setIfInBounds_toArray, List.set_cons_zero, List.set_cons_succ]
            refine wpAnyH_done (by kernel_rfl) ?_ _
            go_wp2_with fail
            go_meet
            obtain ⟨f0, f1, f2, f3⟩ := set4 hPQ p0 p1 q0 q1 (.int .u32 (F : Int)) (.int .i64 (m : Int)) (.int .u32 (G : Int)) (.int .i64 (n : Int))
            exact ⟨P, Q, rfl, rfl, by simpa using hPy, by simpa using hQy, f0, f1, f2, f3, B1.trans (hHeld.2.2.mono (Nat.le_of_lt s1))⟩
          exact AllReadyH.nil
        exact AllReadyH.nil
      exact AllReadyH.nil
    exact AllReadyH.nil
  case rest =>
    clear t1 t2 t3 t4 t5 t6 c1 c2 r1 r2 B1 s1 HW
    obtain ⟨P, Q, rfl, rfl, hP, hQ, p0, p1, q0, q1, B⟩ := hcut
    have hm : m ≤ 32 ∧ n ≤ m := HMN.out
    obtain ⟨hm1, hm2⟩ := hm
    have HF : Hid (F = firstN a m) := HFG.out.1.symm
    have HG : Hid (G = firstN b n) := HFG.out.2.symm
    have HP1 := Lib.hid (sizeN_pos m)
    have HP2 := Lib.hid (sizeN_le m)
    obtain ⟨S, hS⟩ : ∃ S, S = sizeN m := ⟨_, rfl⟩
    obtain ⟨L, hL⟩ : ∃ L, L = F + (S - 1) := ⟨_, rfl⟩
    have hF2 : F < 4294967296 := by rw [HF.out]; exact Nat.lt_of_le_of_lt (firstN_le a m) ha
    have hG2 : G < 4294967296 := by rw [HG.out]; exact Nat.lt_of_le_of_lt (firstN_le b n) hb
    have hL2 : L < 4294967296 := by rw [hL, hS, HF.out]; exact last_lt a m ha hm1
    have hS0 : 1 ≤ S := by rw [hS]; exact HP1.out
    have hS1 : S ≤ 4294967296 := by rw [hS]; exact HP2.out
    have k1 := fun u => has_ F (m : Int) b u hF2 hb (by omega)
    have k2 := fun u => has_ F (m : Int) F u hF2 hF2 (by omega)
    have k3 := fun u => has_ F (m : Int) L u hF2 hL2 (by omega)
    have k4 := fun u => has_ F (m : Int) a u hF2 ha (by omega)
    have k5 := fun u => has_ G (n : Int) a u hG2 ha (by omega)
    have k6 := fun u => has_ G (n : Int) F u hG2 hF2 (by omega)
    have k7 := fun u => has_ G (n : Int) L u hG2 hL2 (by omega)
    have k8 := fun u => has_ G (n : Int) b u hG2 hb (by omega)
    have v1 : hasV F (m : Int) b = decide (F ≤ b ∧ b ≤ L) := by rw [hL, hS, HF.out, has_first a b m hm1]; simp only [in_range]
    have v2 : hasV F (m : Int) F = true := by rw [HF.out, has_first a _ m hm1, first_quo]; simp
    have v3 : hasV F (m : Int) L = true := by rw [hL, hS, HF.out, has_first a _ m hm1, last_quo]; simp
    have v4 : hasV F (m : Int) a = true := by rw [HF.out, has_first a _ m hm1]; simp
    have v5 : hasV G (n : Int) a = decide (a / sizeN n = b / sizeN n) := by rw [HG.out, has_first b _ n (by omega)]
    have v6 : hasV G (n : Int) F = decide (a / sizeN n = b / sizeN n) := by rw [HG.out, HF.out, has_first b _ n (by omega), quo_wide hm2 hm1 (first_quo a m)]
    have v7 : hasV G (n : Int) L = decide (a / sizeN n = b / sizeN n) := by rw [HG.out, hL, hS, HF.out, has_first b _ n (by omega), quo_wide hm2 hm1 (last_quo a m)]
    have v8 : hasV G (n : Int) b = true := by rw [HG.out, has_first b _ n (by omega)]; simp
    obtain ⟨I, hI⟩ : ∃ I : Bool, I = decide (a / sizeN n = b / sizeN n) := ⟨_, rfl⟩
    rw [← hI] at v5 v6 v7
    rw [v2] at k2
    rw [v3] at k3
    rw [v4] at k4
    rw [v5] at k5
    rw [v6] at k6
    rw [v7] at k7
    rw [v8] at k8
    have s1 : IntKind.i64.wrap (32 - (m : Int)) = 32 - (m : Int) := IntWalk.i64_in _ (by omega)
    have s2 : (2 : Int) ^ (32 - m) = (S : Int) := by rw [hS]; unfold sizeN; push_cast; rfl
    have s3 : (32 - (m : Int)).toNat = 32 - m := by omega
    have s4 : IntKind.u64.wrap ((S : Int)) = (S : Int) := IntWalk.u64_in _ (by omega)
    have s5 : IntKind.u64.wrap ((F : Int) + (S : Int)) = (F : Int) + (S : Int) := IntWalk.u64_in _ (by omega)
    have s6 : IntKind.u64.wrap ((F : Int) + (S : Int) - 1) = (L : Int) := by rw [IntWalk.u64_in _ (by omega)]; omega
    have s7 : IntKind.u32.wrap (L : Int) = (L : Int) := IntWalk.u32_in _ (by omega)
    have s8 : IntKind.u64.wrap (F : Int) = (F : Int) := IntWalk.u64_in _ (by omega)
    have HB := Lib.hid (And.intro B (And.intro hP hQ))
    have d0 : ∀ q : Later wc.heap.size wc, q.u.cell? ⟨P, 0, none⟩ = some (.int .u32 (F : Int)) := fun q => q.block hP p0
    have HIN : Hid ((F ≤ b ∧ b ≤ L) ∨ b < F ∨ L < b) := by show _ ∨ _; omega
    have V1 := Lib.hid v1
    clear v1 v2 v3 v4 v5 v6 v7 v8 hI hL hS HP1 HP2 HF HG HFG HMN hP hQ B
    go_wp2_with fail
    refine region_later (B := wc.heap.size) (by kernel_rfl) (by kernel_rfl) ?_
    repeat (go_big_quiet_step (fail))
    refine later_end fun w2 b2 => ?_
    clear d0 s1 s2 s3 s4 s5 s6 s7 s8
    have p0 := kept_ b2 p0 HB.out.2.1
    have p1 := kept_ b2 p1 HB.out.2.1
    have q0 := kept_ b2 q0 HB.out.2.2
    have q1 := kept_ b2 q1 HB.out.2.2
    have hP : P < w2.heap.size := Nat.lt_of_lt_of_le HB.out.2.1 b2.size
    have hQ : Q < w2.heap.size := Nat.lt_of_lt_of_le HB.out.2.2 b2.size
    have B2 := HB.out.1.trans (b2.mono HB.out.1.size)
    clear HB b2
    have hways : (∃ f, hasV F (m : Int) b = f ∧ decide (F ≤ b) = true ∧ decide (b ≤ L) = true ∧ f = true) ∨ (∃ f, hasV F (m : Int) b = f ∧ decide (F ≤ b) = false ∧ f = false) ∨ (∃ f, hasV F (m : Int) b = f ∧ decide (F ≤ b) = true ∧ decide (b ≤ L) = false ∧ f = false) := by
      rcases HIN.out with h | h | h
      · exact .inl ⟨_, rfl, by simpa using h.1, by simpa using h.2, by rw [V1.out]; simpa using h⟩
      · exact .inr (.inl ⟨_, rfl, by simp; omega, by rw [V1.out]; simp; omega⟩)
      · by_cases hf : F ≤ b
        · exact .inr (.inr ⟨_, rfl, by simpa using hf, by simp; omega, by rw [V1.out]; simp; omega⟩)
        · exact .inr (.inl ⟨_, rfl, by simp; omega, by rw [V1.out]; simp; omega⟩)
    clear HIN V1
    cases I
    all_goals rcases hways with ⟨f, hf, z1, z2, rfl⟩ | ⟨f, hf, z1, rfl⟩ | ⟨f, hf, z1, z2, rfl⟩
    all_goals rw [hf] at k1
    all_goals clear hf
    · go_wp2_with fail
      refine (k1 _).mono ?_; rintro e w3 ⟨rfl, b3⟩
      have p0 := kept_ b3 p0 hP
      have p1 := kept_ b3 p1 hP
      have q0 := kept_ b3 q0 hQ
      have q1 := kept_ b3 q1 hQ
      have hP := Nat.lt_of_lt_of_le hP b3.size
      have hQ := Nat.lt_of_lt_of_le hQ b3.size
      have B3 := B2.trans (b3.mono B2.size)
      clear B2 b3
      go_wp2_with fail
      refine (k2 _).mono ?_; rintro e w4 ⟨rfl, b4⟩
      have p0 := kept_ b4 p0 hP
      have p1 := kept_ b4 p1 hP
      have q0 := kept_ b4 q0 hQ
      have q1 := kept_ b4 q1 hQ
      have hP := Nat.lt_of_lt_of_le hP b4.size
      have hQ := Nat.lt_of_lt_of_le hQ b4.size
      have B4 := B3.trans (b4.mono B3.size)
      clear B3 b4
      go_wp2_with fail
      refine (k3 _).mono ?_; rintro e w5 ⟨rfl, b5⟩
      have p0 := kept_ b5 p0 hP
      have p1 := kept_ b5 p1 hP
      have q0 := kept_ b5 q0 hQ
      have q1 := kept_ b5 q1 hQ
      have hP := Nat.lt_of_lt_of_le hP b5.size
      have hQ := Nat.lt_of_lt_of_le hQ b5.size
      have B5 := B4.trans (b5.mono B4.size)
      clear B4 b5
      go_wp2_with fail
      refine (k4 _).mono ?_; rintro e w6 ⟨rfl, b6⟩
      have p0 := kept_ b6 p0 hP
      have p1 := kept_ b6 p1 hP
      have q0 := kept_ b6 q0 hQ
      have q1 := kept_ b6 q1 hQ
      have hP := Nat.lt_of_lt_of_le hP b6.size
      have hQ := Nat.lt_of_lt_of_le hQ b6.size
      have B6 := B5.trans (b6.mono B5.size)
      clear B5 b6
      go_wp2_with fail
      refine (k5 _).mono ?_; rintro e w7 ⟨rfl, b7⟩
      have p0 := kept_ b7 p0 hP
      have p1 := kept_ b7 p1 hP
      have q0 := kept_ b7 q0 hQ
      have q1 := kept_ b7 q1 hQ
      have hP := Nat.lt_of_lt_of_le hP b7.size
      have hQ := Nat.lt_of_lt_of_le hQ b7.size
      have B7 := B6.trans (b7.mono B6.size)
      clear B6 b7
      go_wp2_with fail
      refine (k6 _).mono ?_; rintro e w8 ⟨rfl, b8⟩
      have p0 := kept_ b8 p0 hP
      have p1 := kept_ b8 p1 hP
      have q0 := kept_ b8 q0 hQ
      have q1 := kept_ b8 q1 hQ
      have hP := Nat.lt_of_lt_of_le hP b8.size
      have hQ := Nat.lt_of_lt_of_le hQ b8.size
      have B8 := B7.trans (b8.mono B7.size)
      clear B7 b8
      go_wp2_with fail
      refine (k7 _).mono ?_; rintro e w9 ⟨rfl, b9⟩
      have p0 := kept_ b9 p0 hP
      have p1 := kept_ b9 p1 hP
      have q0 := kept_ b9 q0 hQ
      have q1 := kept_ b9 q1 hQ
      have hP := Nat.lt_of_lt_of_le hP b9.size
      have hQ := Nat.lt_of_lt_of_le hQ b9.size
      have B9 := B8.trans (b9.mono B8.size)
      clear B8 b9
      go_wp2_with fail
      refine (named_ _).mono ?_; rintro e w10 ⟨rfl, b10⟩
      have B10 := B9.trans (b10.mono B9.size)
      clear B9 b10
      clear p0 p1 q0 q1
      go_wp2
      go_ret
      exact ⟨rfl, B10⟩
    · go_wp2_with fail
      refine (k1 _).mono ?_; rintro e w3 ⟨rfl, b3⟩
      have p0 := kept_ b3 p0 hP
      have p1 := kept_ b3 p1 hP
      have q0 := kept_ b3 q0 hQ
      have q1 := kept_ b3 q1 hQ
      have hP := Nat.lt_of_lt_of_le hP b3.size
      have hQ := Nat.lt_of_lt_of_le hQ b3.size
      have B3 := B2.trans (b3.mono B2.size)
      clear B2 b3
      go_wp2_with fail
      refine (k2 _).mono ?_; rintro e w4 ⟨rfl, b4⟩
      have p0 := kept_ b4 p0 hP
      have p1 := kept_ b4 p1 hP
      have q0 := kept_ b4 q0 hQ
      have q1 := kept_ b4 q1 hQ
      have hP := Nat.lt_of_lt_of_le hP b4.size
      have hQ := Nat.lt_of_lt_of_le hQ b4.size
      have B4 := B3.trans (b4.mono B3.size)
      clear B3 b4
      go_wp2_with fail
      refine (k3 _).mono ?_; rintro e w5 ⟨rfl, b5⟩
      have p0 := kept_ b5 p0 hP
      have p1 := kept_ b5 p1 hP
      have q0 := kept_ b5 q0 hQ
      have q1 := kept_ b5 q1 hQ
      have hP := Nat.lt_of_lt_of_le hP b5.size
      have hQ := Nat.lt_of_lt_of_le hQ b5.size
      have B5 := B4.trans (b5.mono B4.size)
      clear B4 b5
      go_wp2_with fail
      refine (k4 _).mono ?_; rintro e w6 ⟨rfl, b6⟩
      have p0 := kept_ b6 p0 hP
      have p1 := kept_ b6 p1 hP
      have q0 := kept_ b6 q0 hQ
      have q1 := kept_ b6 q1 hQ
      have hP := Nat.lt_of_lt_of_le hP b6.size
      have hQ := Nat.lt_of_lt_of_le hQ b6.size
      have B6 := B5.trans (b6.mono B5.size)
      clear B5 b6
      go_wp2_with fail
      refine (k5 _).mono ?_; rintro e w7 ⟨rfl, b7⟩
      have p0 := kept_ b7 p0 hP
      have p1 := kept_ b7 p1 hP
      have q0 := kept_ b7 q0 hQ
      have q1 := kept_ b7 q1 hQ
      have hP := Nat.lt_of_lt_of_le hP b7.size
      have hQ := Nat.lt_of_lt_of_le hQ b7.size
      have B7 := B6.trans (b7.mono B6.size)
      clear B6 b7
      go_wp2_with fail
      refine (k6 _).mono ?_; rintro e w8 ⟨rfl, b8⟩
      have p0 := kept_ b8 p0 hP
      have p1 := kept_ b8 p1 hP
      have q0 := kept_ b8 q0 hQ
      have q1 := kept_ b8 q1 hQ
      have hP := Nat.lt_of_lt_of_le hP b8.size
      have hQ := Nat.lt_of_lt_of_le hQ b8.size
      have B8 := B7.trans (b8.mono B7.size)
      clear B7 b8
      go_wp2_with fail
      refine (k7 _).mono ?_; rintro e w9 ⟨rfl, b9⟩
      have p0 := kept_ b9 p0 hP
      have p1 := kept_ b9 p1 hP
      have q0 := kept_ b9 q0 hQ
      have q1 := kept_ b9 q1 hQ
      have hP := Nat.lt_of_lt_of_le hP b9.size
      have hQ := Nat.lt_of_lt_of_le hQ b9.size
      have B9 := B8.trans (b9.mono B8.size)
      clear B8 b9
      go_wp2_with fail
      refine (named_ _).mono ?_; rintro e w10 ⟨rfl, b10⟩
      have B10 := B9.trans (b10.mono B9.size)
      clear B9 b10
      clear p0 p1 q0 q1
      go_wp2
      go_ret
      exact ⟨rfl, B10⟩
    · go_wp2_with fail
      refine (k1 _).mono ?_; rintro e w3 ⟨rfl, b3⟩
      have p0 := kept_ b3 p0 hP
      have p1 := kept_ b3 p1 hP
      have q0 := kept_ b3 q0 hQ
      have q1 := kept_ b3 q1 hQ
      have hP := Nat.lt_of_lt_of_le hP b3.size
      have hQ := Nat.lt_of_lt_of_le hQ b3.size
      have B3 := B2.trans (b3.mono B2.size)
      clear B2 b3
      go_wp2_with fail
      refine (k2 _).mono ?_; rintro e w4 ⟨rfl, b4⟩
      have p0 := kept_ b4 p0 hP
      have p1 := kept_ b4 p1 hP
      have q0 := kept_ b4 q0 hQ
      have q1 := kept_ b4 q1 hQ
      have hP := Nat.lt_of_lt_of_le hP b4.size
      have hQ := Nat.lt_of_lt_of_le hQ b4.size
      have B4 := B3.trans (b4.mono B3.size)
      clear B3 b4
      go_wp2_with fail
      refine (k3 _).mono ?_; rintro e w5 ⟨rfl, b5⟩
      have p0 := kept_ b5 p0 hP
      have p1 := kept_ b5 p1 hP
      have q0 := kept_ b5 q0 hQ
      have q1 := kept_ b5 q1 hQ
      have hP := Nat.lt_of_lt_of_le hP b5.size
      have hQ := Nat.lt_of_lt_of_le hQ b5.size
      have B5 := B4.trans (b5.mono B4.size)
      clear B4 b5
      go_wp2_with fail
      refine (k4 _).mono ?_; rintro e w6 ⟨rfl, b6⟩
      have p0 := kept_ b6 p0 hP
      have p1 := kept_ b6 p1 hP
      have q0 := kept_ b6 q0 hQ
      have q1 := kept_ b6 q1 hQ
      have hP := Nat.lt_of_lt_of_le hP b6.size
      have hQ := Nat.lt_of_lt_of_le hQ b6.size
      have B6 := B5.trans (b6.mono B5.size)
      clear B5 b6
      go_wp2_with fail
      refine (k5 _).mono ?_; rintro e w7 ⟨rfl, b7⟩
      have p0 := kept_ b7 p0 hP
      have p1 := kept_ b7 p1 hP
      have q0 := kept_ b7 q0 hQ
      have q1 := kept_ b7 q1 hQ
      have hP := Nat.lt_of_lt_of_le hP b7.size
      have hQ := Nat.lt_of_lt_of_le hQ b7.size
      have B7 := B6.trans (b7.mono B6.size)
      clear B6 b7
      go_wp2_with fail
      refine (k6 _).mono ?_; rintro e w8 ⟨rfl, b8⟩
      have p0 := kept_ b8 p0 hP
      have p1 := kept_ b8 p1 hP
      have q0 := kept_ b8 q0 hQ
      have q1 := kept_ b8 q1 hQ
      have hP := Nat.lt_of_lt_of_le hP b8.size
      have hQ := Nat.lt_of_lt_of_le hQ b8.size
      have B8 := B7.trans (b8.mono B7.size)
      clear B7 b8
      go_wp2_with fail
      refine (k7 _).mono ?_; rintro e w9 ⟨rfl, b9⟩
      have p0 := kept_ b9 p0 hP
      have p1 := kept_ b9 p1 hP
      have q0 := kept_ b9 q0 hQ
      have q1 := kept_ b9 q1 hQ
      have hP := Nat.lt_of_lt_of_le hP b9.size
      have hQ := Nat.lt_of_lt_of_le hQ b9.size
      have B9 := B8.trans (b9.mono B8.size)
      clear B8 b9
      go_wp2_with fail
      refine (named_ _).mono ?_; rintro e w10 ⟨rfl, b10⟩
      have B10 := B9.trans (b10.mono B9.size)
      clear B9 b10
      clear p0 p1 q0 q1
      go_wp2
      go_ret
      exact ⟨rfl, B10⟩
    · go_wp2_with fail
      refine (k1 _).mono ?_; rintro e w3 ⟨rfl, b3⟩
      have p0 := kept_ b3 p0 hP
      have p1 := kept_ b3 p1 hP
      have q0 := kept_ b3 q0 hQ
      have q1 := kept_ b3 q1 hQ
      have hP := Nat.lt_of_lt_of_le hP b3.size
      have hQ := Nat.lt_of_lt_of_le hQ b3.size
      have B3 := B2.trans (b3.mono B2.size)
      clear B2 b3
      go_wp2_with fail
      refine (k2 _).mono ?_; rintro e w4 ⟨rfl, b4⟩
      have p0 := kept_ b4 p0 hP
      have p1 := kept_ b4 p1 hP
      have q0 := kept_ b4 q0 hQ
      have q1 := kept_ b4 q1 hQ
      have hP := Nat.lt_of_lt_of_le hP b4.size
      have hQ := Nat.lt_of_lt_of_le hQ b4.size
      have B4 := B3.trans (b4.mono B3.size)
      clear B3 b4
      go_wp2_with fail
      refine (k3 _).mono ?_; rintro e w5 ⟨rfl, b5⟩
      have p0 := kept_ b5 p0 hP
      have p1 := kept_ b5 p1 hP
      have q0 := kept_ b5 q0 hQ
      have q1 := kept_ b5 q1 hQ
      have hP := Nat.lt_of_lt_of_le hP b5.size
      have hQ := Nat.lt_of_lt_of_le hQ b5.size
      have B5 := B4.trans (b5.mono B4.size)
      clear B4 b5
      go_wp2_with fail
      refine (k4 _).mono ?_; rintro e w6 ⟨rfl, b6⟩
      have p0 := kept_ b6 p0 hP
      have p1 := kept_ b6 p1 hP
      have q0 := kept_ b6 q0 hQ
      have q1 := kept_ b6 q1 hQ
      have hP := Nat.lt_of_lt_of_le hP b6.size
      have hQ := Nat.lt_of_lt_of_le hQ b6.size
      have B6 := B5.trans (b6.mono B5.size)
      clear B5 b6
      go_wp2_with fail
      refine (k5 _).mono ?_; rintro e w7 ⟨rfl, b7⟩
      have p0 := kept_ b7 p0 hP
      have p1 := kept_ b7 p1 hP
      have q0 := kept_ b7 q0 hQ
      have q1 := kept_ b7 q1 hQ
      have hP := Nat.lt_of_lt_of_le hP b7.size
      have hQ := Nat.lt_of_lt_of_le hQ b7.size
      have B7 := B6.trans (b7.mono B6.size)
      clear B6 b7
      go_wp2_with fail
      refine (k6 _).mono ?_; rintro e w8 ⟨rfl, b8⟩
      have p0 := kept_ b8 p0 hP
      have p1 := kept_ b8 p1 hP
      have q0 := kept_ b8 q0 hQ
      have q1 := kept_ b8 q1 hQ
      have hP := Nat.lt_of_lt_of_le hP b8.size
      have hQ := Nat.lt_of_lt_of_le hQ b8.size
      have B8 := B7.trans (b8.mono B7.size)
      clear B7 b8
      go_wp2_with fail
      refine (k7 _).mono ?_; rintro e w9 ⟨rfl, b9⟩
      have p0 := kept_ b9 p0 hP
      have p1 := kept_ b9 p1 hP
      have q0 := kept_ b9 q0 hQ
      have q1 := kept_ b9 q1 hQ
      have hP := Nat.lt_of_lt_of_le hP b9.size
      have hQ := Nat.lt_of_lt_of_le hQ b9.size
      have B9 := B8.trans (b9.mono B8.size)
      clear B8 b9
      go_wp2_with fail
      refine (k1 _).mono ?_; rintro e w10 ⟨rfl, b10⟩
      have p0 := kept_ b10 p0 hP
      have p1 := kept_ b10 p1 hP
      have q0 := kept_ b10 q0 hQ
      have q1 := kept_ b10 q1 hQ
      have hP := Nat.lt_of_lt_of_le hP b10.size
      have hQ := Nat.lt_of_lt_of_le hQ b10.size
      have B10 := B9.trans (b10.mono B9.size)
      clear B9 b10
      go_wp2_with fail
      refine (k8 _).mono ?_; rintro e w11 ⟨rfl, b11⟩
      have p0 := kept_ b11 p0 hP
      have p1 := kept_ b11 p1 hP
      have q0 := kept_ b11 q0 hQ
      have q1 := kept_ b11 q1 hQ
      have hP := Nat.lt_of_lt_of_le hP b11.size
      have hQ := Nat.lt_of_lt_of_le hQ b11.size
      have B11 := B10.trans (b11.mono B10.size)
      clear B10 b11
      go_wp2_with fail
      refine (named_ _).mono ?_; rintro e w12 ⟨rfl, b12⟩
      have B12 := B11.trans (b12.mono B11.size)
      clear B11 b12
      clear p0 p1 q0 q1
      go_wp2
      go_ret
      exact ⟨rfl, B12⟩
    · go_wp2_with fail
      refine (k1 _).mono ?_; rintro e w3 ⟨rfl, b3⟩
      have p0 := kept_ b3 p0 hP
      have p1 := kept_ b3 p1 hP
      have q0 := kept_ b3 q0 hQ
      have q1 := kept_ b3 q1 hQ
      have hP := Nat.lt_of_lt_of_le hP b3.size
      have hQ := Nat.lt_of_lt_of_le hQ b3.size
      have B3 := B2.trans (b3.mono B2.size)
      clear B2 b3
      go_wp2_with fail
      refine (k2 _).mono ?_; rintro e w4 ⟨rfl, b4⟩
      have p0 := kept_ b4 p0 hP
      have p1 := kept_ b4 p1 hP
      have q0 := kept_ b4 q0 hQ
      have q1 := kept_ b4 q1 hQ
      have hP := Nat.lt_of_lt_of_le hP b4.size
      have hQ := Nat.lt_of_lt_of_le hQ b4.size
      have B4 := B3.trans (b4.mono B3.size)
      clear B3 b4
      go_wp2_with fail
      refine (k3 _).mono ?_; rintro e w5 ⟨rfl, b5⟩
      have p0 := kept_ b5 p0 hP
      have p1 := kept_ b5 p1 hP
      have q0 := kept_ b5 q0 hQ
      have q1 := kept_ b5 q1 hQ
      have hP := Nat.lt_of_lt_of_le hP b5.size
      have hQ := Nat.lt_of_lt_of_le hQ b5.size
      have B5 := B4.trans (b5.mono B4.size)
      clear B4 b5
      go_wp2_with fail
      refine (k4 _).mono ?_; rintro e w6 ⟨rfl, b6⟩
      have p0 := kept_ b6 p0 hP
      have p1 := kept_ b6 p1 hP
      have q0 := kept_ b6 q0 hQ
      have q1 := kept_ b6 q1 hQ
      have hP := Nat.lt_of_lt_of_le hP b6.size
      have hQ := Nat.lt_of_lt_of_le hQ b6.size
      have B6 := B5.trans (b6.mono B5.size)
      clear B5 b6
      go_wp2_with fail
      refine (k5 _).mono ?_; rintro e w7 ⟨rfl, b7⟩
      have p0 := kept_ b7 p0 hP
      have p1 := kept_ b7 p1 hP
      have q0 := kept_ b7 q0 hQ
      have q1 := kept_ b7 q1 hQ
      have hP := Nat.lt_of_lt_of_le hP b7.size
      have hQ := Nat.lt_of_lt_of_le hQ b7.size
      have B7 := B6.trans (b7.mono B6.size)
      clear B6 b7
      go_wp2_with fail
      refine (k6 _).mono ?_; rintro e w8 ⟨rfl, b8⟩
      have p0 := kept_ b8 p0 hP
      have p1 := kept_ b8 p1 hP
      have q0 := kept_ b8 q0 hQ
      have q1 := kept_ b8 q1 hQ
      have hP := Nat.lt_of_lt_of_le hP b8.size
      have hQ := Nat.lt_of_lt_of_le hQ b8.size
      have B8 := B7.trans (b8.mono B7.size)
      clear B7 b8
      go_wp2_with fail
      refine (k7 _).mono ?_; rintro e w9 ⟨rfl, b9⟩
      have p0 := kept_ b9 p0 hP
      have p1 := kept_ b9 p1 hP
      have q0 := kept_ b9 q0 hQ
      have q1 := kept_ b9 q1 hQ
      have hP := Nat.lt_of_lt_of_le hP b9.size
      have hQ := Nat.lt_of_lt_of_le hQ b9.size
      have B9 := B8.trans (b9.mono B8.size)
      clear B8 b9
      go_wp2_with fail
      refine (k1 _).mono ?_; rintro e w10 ⟨rfl, b10⟩
      have p0 := kept_ b10 p0 hP
      have p1 := kept_ b10 p1 hP
      have q0 := kept_ b10 q0 hQ
      have q1 := kept_ b10 q1 hQ
      have hP := Nat.lt_of_lt_of_le hP b10.size
      have hQ := Nat.lt_of_lt_of_le hQ b10.size
      have B10 := B9.trans (b10.mono B9.size)
      clear B9 b10
      go_wp2_with fail
      refine (named_ _).mono ?_; rintro e w11 ⟨rfl, b11⟩
      have B11 := B10.trans (b11.mono B10.size)
      clear B10 b11
      clear p0 p1 q0 q1
      go_wp2
      go_ret
      exact ⟨rfl, B11⟩
    · go_wp2_with fail
      refine (k1 _).mono ?_; rintro e w3 ⟨rfl, b3⟩
      have p0 := kept_ b3 p0 hP
      have p1 := kept_ b3 p1 hP
      have q0 := kept_ b3 q0 hQ
      have q1 := kept_ b3 q1 hQ
      have hP := Nat.lt_of_lt_of_le hP b3.size
      have hQ := Nat.lt_of_lt_of_le hQ b3.size
      have B3 := B2.trans (b3.mono B2.size)
      clear B2 b3
      go_wp2_with fail
      refine (k2 _).mono ?_; rintro e w4 ⟨rfl, b4⟩
      have p0 := kept_ b4 p0 hP
      have p1 := kept_ b4 p1 hP
      have q0 := kept_ b4 q0 hQ
      have q1 := kept_ b4 q1 hQ
      have hP := Nat.lt_of_lt_of_le hP b4.size
      have hQ := Nat.lt_of_lt_of_le hQ b4.size
      have B4 := B3.trans (b4.mono B3.size)
      clear B3 b4
      go_wp2_with fail
      refine (k3 _).mono ?_; rintro e w5 ⟨rfl, b5⟩
      have p0 := kept_ b5 p0 hP
      have p1 := kept_ b5 p1 hP
      have q0 := kept_ b5 q0 hQ
      have q1 := kept_ b5 q1 hQ
      have hP := Nat.lt_of_lt_of_le hP b5.size
      have hQ := Nat.lt_of_lt_of_le hQ b5.size
      have B5 := B4.trans (b5.mono B4.size)
      clear B4 b5
      go_wp2_with fail
      refine (k4 _).mono ?_; rintro e w6 ⟨rfl, b6⟩
      have p0 := kept_ b6 p0 hP
      have p1 := kept_ b6 p1 hP
      have q0 := kept_ b6 q0 hQ
      have q1 := kept_ b6 q1 hQ
      have hP := Nat.lt_of_lt_of_le hP b6.size
      have hQ := Nat.lt_of_lt_of_le hQ b6.size
      have B6 := B5.trans (b6.mono B5.size)
      clear B5 b6
      go_wp2_with fail
      refine (k5 _).mono ?_; rintro e w7 ⟨rfl, b7⟩
      have p0 := kept_ b7 p0 hP
      have p1 := kept_ b7 p1 hP
      have q0 := kept_ b7 q0 hQ
      have q1 := kept_ b7 q1 hQ
      have hP := Nat.lt_of_lt_of_le hP b7.size
      have hQ := Nat.lt_of_lt_of_le hQ b7.size
      have B7 := B6.trans (b7.mono B6.size)
      clear B6 b7
      go_wp2_with fail
      refine (k6 _).mono ?_; rintro e w8 ⟨rfl, b8⟩
      have p0 := kept_ b8 p0 hP
      have p1 := kept_ b8 p1 hP
      have q0 := kept_ b8 q0 hQ
      have q1 := kept_ b8 q1 hQ
      have hP := Nat.lt_of_lt_of_le hP b8.size
      have hQ := Nat.lt_of_lt_of_le hQ b8.size
      have B8 := B7.trans (b8.mono B7.size)
      clear B7 b8
      go_wp2_with fail
      refine (k7 _).mono ?_; rintro e w9 ⟨rfl, b9⟩
      have p0 := kept_ b9 p0 hP
      have p1 := kept_ b9 p1 hP
      have q0 := kept_ b9 q0 hQ
      have q1 := kept_ b9 q1 hQ
      have hP := Nat.lt_of_lt_of_le hP b9.size
      have hQ := Nat.lt_of_lt_of_le hQ b9.size
      have B9 := B8.trans (b9.mono B8.size)
      clear B8 b9
      go_wp2_with fail
      refine (k1 _).mono ?_; rintro e w10 ⟨rfl, b10⟩
      have p0 := kept_ b10 p0 hP
      have p1 := kept_ b10 p1 hP
      have q0 := kept_ b10 q0 hQ
      have q1 := kept_ b10 q1 hQ
      have hP := Nat.lt_of_lt_of_le hP b10.size
      have hQ := Nat.lt_of_lt_of_le hQ b10.size
      have B10 := B9.trans (b10.mono B9.size)
      clear B9 b10
      go_wp2_with fail
      refine (named_ _).mono ?_; rintro e w11 ⟨rfl, b11⟩
      have B11 := B10.trans (b11.mono B10.size)
      clear B10 b11
      clear p0 p1 q0 q1
      go_wp2
      go_ret
      exact ⟨rfl, B11⟩
end Go.Proofs.Ytaaobacmlaaajaa.AddrsNest
