/- The contract of the document's Bytes (layer 12). -/
import Derived.Test.YtijippfcobgidaaHasB
import Derived.Laws.BytesArg
namespace Go.Proofs.Ytijippfcobgidaa
set_option linter.unusedVariables false
set_option linter.unusedSimpArgs false
open Go.ChangeShapes Go.WideShapes Go.ChangeAt Go.RowKit Go.PlainAid
theorem keepNew {u w2 : World} {b : Nat} {v : Value} (h : Below u.heap.size u w2) (hc : u.cell? ⟨b, 0, none⟩ = some v) : w2.cell? ⟨b, 0, none⟩ = some v := (h.cell (p := ⟨b, 0, none⟩) (World.block_lt_of_cell? _ _ hc)).trans hc
theorem cellNew (u : World) (v : Value) (t : TypeId) : (u.alloc (.cells #[v] t)).cell? ⟨u.heap.size, 0, none⟩ = some v := by simp [go_sem]
attribute [local go_sem ↓] Go.wp_at_zero Go.wp_at_succ
set_option maxHeartbeats 2000000 in
set_option maxRecDepth 100000 in
theorem rbytes12_ (pr sa sp da dp : Nat) (w : World) (h0 : pr < 256) (h1 : sa < 4294967296) (h2 : sp < 65536) (h3 : da < 4294967296) (h4 : dp < 65536) :
    Calls Try.prog 15 #[.agg #[.int .u8 (pr : Int), .int .u32 (sa : Int), .int .u16 (sp : Int), .int .u32 (da : Int), .int .u16 (dp : Int)]] w fun e w' => e = .returned (.string (haS pr sa sp da dp)) ∧ Below w.heap.size w w' := by
  have HV : Hid (strOfNums [(pr : Int)] ++ strOfNums (wordL [(sa : Int) / 65536, (sa : Int) % 65536]) ++ strOfNums (wordL [(sp : Int)]) ++ strOfNums (wordL [(da : Int) / 65536, (da : Int) % 65536]) ++ strOfNums (wordL [(dp : Int)]) = haS pr sa sp da dp) := by
    show _ = _
    rw [← ha_pts, ← pt_two sa sp h1 h2, ← pt_two da dp h3 h4]
    simp only [ByteArray.append_assoc]
  have c1 := fun u => rput32 (sa : Int) u (by omega) (by omega)
  have c2 := fun u => rput16 (sp : Int) u (by omega) (by omega)
  have c3 := fun u => rput32 (da : Int) u (by omega) (by omega)
  have c4 := fun u => rput16 (dp : Int) u (by omega) (by omega)
  have z0 : (strOfNums [(pr : Int)]).size = 1 := by rw [size_nums]; rfl
  have z1 : (strOfNums (wordL [(sa : Int) / 65536, (sa : Int) % 65536])).size = 4 := by rw [size_W]; rfl
  have z2 : (strOfNums (wordL [(sp : Int)])).size = 2 := by rw [size_W]; rfl
  have z3 : (strOfNums (wordL [(da : Int) / 65536, (da : Int) % 65536])).size = 4 := by rw [size_W]; rfl
  have z4 : (strOfNums (wordL [(dp : Int)])).size = 2 := by rw [size_W]; rfl
  generalize strOfNums (wordL [(sa : Int) / 65536, (sa : Int) % 65536]) = U1 at *
  generalize strOfNums (wordL [(sp : Int)]) = U2 at *
  generalize strOfNums (wordL [(da : Int) / 65536, (da : Int) % 65536]) = U3 at *
  generalize strOfNums (wordL [(dp : Int)]) = U4 at *
  have hconv : ∀ (u : World) (b : Nat), u.cell? ⟨b, 0, none⟩ = some (.int .u8 (pr : Int)) → (convert 48 9 (.slice (some ⟨b, 0, none⟩) 1 1)).run Try.prog u = .ok (.string (strOfNums [(pr : Int)])) u :=
    fun u b hc => run_convert_bytes_arg (P := Try.prog) u 48 5 Try.underlying48 Try.underlying5 b 0 1 1 [(pr : Int)] rfl (by
      intro i hi
      match i, hi with
      | 0, _ => simpa using hc) 9 Try.underlying9
  generalize strOfNums [(pr : Int)] = U0 at *
  have q1 : U0.size + U1.size ≤ 9223372036854775807 := by omega
  have q2 : U0.size + U1.size + U2.size ≤ 9223372036854775807 := by omega
  have q3 : U0.size + U1.size + U2.size + U3.size ≤ 9223372036854775807 := by omega
  have q4 : U0.size + U1.size + U2.size + U3.size + U4.size ≤ 9223372036854775807 := by omega
  have r1 : ¬ 9223372036854775807 < U0.size + U1.size := by omega
  have r2 : ¬ 9223372036854775807 < U0.size + U1.size + U2.size := by omega
  clear z0 z1 z2 z3 z4
  go_enter Try.func15, Try.ntmps15
  go_wp2_with fail
  obtain ⟨w1, hw1⟩ : ∃ w1, w1 = w.alloc (.cells #[.int .u8 (pr : Int), .int .u32 (sa : Int), .int .u16 (sp : Int), .int .u32 (da : Int), .int .u16 (dp : Int)] 28) := ⟨_, rfl⟩
  have A1 : Box5 w1 w.heap.size (.int .u8 (pr : Int)) (.int .u32 (sa : Int)) (.int .u16 (sp : Int)) (.int .u32 (da : Int)) (.int .u16 (dp : Int)) := by rw [hw1]; exact Box5.make w _ _ _ _ _ 28
  have B1 : Below w.heap.size w w1 := by rw [hw1]; exact (Below.refl _ _).alloc (Nat.le_refl _) _
  rw [← hw1]
  clear hw1
  obtain ⟨s1, k0, k1, k2, k3, k4⟩ := id A1
  have MK := Lib.hid (show ∀ w', Below w1.heap.size w1 w' → w'.cell? ⟨w.heap.size, 0, none⟩ = some (.int .u8 (pr : Int)) ∧ w'.cell? ⟨w.heap.size, 1, none⟩ = some (.int .u32 (sa : Int)) ∧ w'.cell? ⟨w.heap.size, 2, none⟩ = some (.int .u16 (sp : Int)) ∧ Below w1.heap.size w1 w' from
    fun w' h => ⟨(h.cell (p := ⟨_, 0, none⟩) s1).trans k0, (h.cell (p := ⟨_, 1, none⟩) s1).trans k1, (h.cell (p := ⟨_, 2, none⟩) s1).trans k2, h⟩)
  clear k0 k1 k2 k3 k4
  refine wp_region_noPanic ?_
  refine wp_region_held_drew (S := (fun w' => w'.cell? ⟨w.heap.size, 0, none⟩ = some (.int .u8 (pr : Int)) ∧ w'.cell? ⟨w.heap.size, 1, none⟩ = some (.int .u32 (sa : Int)) ∧ w'.cell? ⟨w.heap.size, 2, none⟩ = some (.int .u16 (sp : Int)) ∧ Below w1.heap.size w1 w')) (by kernel_rfl) (MK.out _ (Below.refl _ _).drew) (fun hS => ?_)
  -- the region by hand
  refine wpAnyH_take (i := 0) (oi := _) (v := ?_) rfl (by kernel_rfl) (by kernel_rfl) (by kernel_rfl) (fun _ _ _ h => h) (Or.inl ⟨by rfl, ?_⟩) (by assumption) ?_
  rotate_left
  · intro w hSw
    (try dsimp only at hSw)
    obtain ⟨g0, g1, g2, _⟩ := hSw
    go_simp
    with_reducible rfl
  try simp only [List.getElem_toArray, List.getElem_cons_succ, List.getElem_cons_zero, Act.put, List.setIfInBounds_toArray, List.set_cons_zero, List.set_cons_succ]
  refine wpAnyH_take (i := 1) (oi := _) (v := ?_) rfl (by kernel_rfl) (by kernel_rfl) (by kernel_rfl) (fun _ _ _ h => h) (Or.inl ⟨by rfl, ?_⟩) (by assumption) ?_
  rotate_left
  · intro w hSw
    (try dsimp only at hSw)
    obtain ⟨g0, g1, g2, _⟩ := hSw
    go_simp
    with_reducible rfl
  try simp only [List.getElem_toArray, List.getElem_cons_succ, List.getElem_cons_zero, Act.put, List.setIfInBounds_toArray, List.set_cons_zero, List.set_cons_succ]
  refine wpAnyH_take (i := 4) (oi := _) (v := ?_) rfl (by kernel_rfl) (by kernel_rfl) (by kernel_rfl) (fun _ _ _ h => h) (Or.inl ⟨by rfl, ?_⟩) (by assumption) ?_
  rotate_left
  · intro w hSw
    (try dsimp only at hSw)
    obtain ⟨g0, g1, g2, _⟩ := hSw
    go_simp
    with_reducible rfl
  try simp only [List.getElem_toArray, List.getElem_cons_succ, List.getElem_cons_zero, Act.put, List.setIfInBounds_toArray, List.set_cons_zero, List.set_cons_succ]
  refine wpAnyH_take (i := 5) (oi := _) (v := ?_) rfl (by kernel_rfl) (by kernel_rfl) (by kernel_rfl) (fun _ _ _ h => h) (Or.inl ⟨by rfl, ?_⟩) (by assumption) ?_
  rotate_left
  · intro w hSw
    (try dsimp only at hSw)
    obtain ⟨g0, g1, g2, _⟩ := hSw
    go_simp
    with_reducible rfl
  try simp only [List.getElem_toArray, List.getElem_cons_succ, List.getElem_cons_zero, Act.put, List.setIfInBounds_toArray, List.set_cons_zero, List.set_cons_succ]
  refine wpAnyH_take (i := 6) (oi := _) (v := ?_) rfl (by kernel_rfl) (by kernel_rfl) (by kernel_rfl) (fun _ _ _ h => h) (Or.inl ⟨by rfl, ?_⟩) (by assumption) ?_
  rotate_left
  · intro w hSw
    (try dsimp only at hSw)
    obtain ⟨g0, g1, g2, _⟩ := hSw
    go_simp
    with_reducible rfl
  try simp only [List.getElem_toArray, List.getElem_cons_succ, List.getElem_cons_zero, Act.put, List.setIfInBounds_toArray, List.set_cons_zero, List.set_cons_succ]
  refine wpAnyH_take (i := 9) (oi := _) (v := ?_) rfl (by kernel_rfl) (by kernel_rfl) (by kernel_rfl) (fun _ _ _ h => h) (Or.inl ⟨by rfl, ?_⟩) (by assumption) ?_
  rotate_left
  · intro w hSw
    (try dsimp only at hSw)
    obtain ⟨g0, g1, g2, _⟩ := hSw
    go_simp
    with_reducible rfl
  try simp only [List.getElem_toArray, List.getElem_cons_succ, List.getElem_cons_zero, Act.put, List.setIfInBounds_toArray, List.set_cons_zero, List.set_cons_succ]
  refine wpAnyH_take (i := 10) (oi := _) (v := ?_) rfl (by kernel_rfl) (by kernel_rfl) (by kernel_rfl) (fun _ _ _ h => h) (Or.inl ⟨by rfl, ?_⟩) (by assumption) ?_
  rotate_left
  · intro w hSw
    (try dsimp only at hSw)
    obtain ⟨g0, g1, g2, _⟩ := hSw
    go_simp
    with_reducible rfl
  try simp only [List.getElem_toArray, List.getElem_cons_succ, List.getElem_cons_zero, Act.put, List.setIfInBounds_toArray, List.set_cons_zero, List.set_cons_succ]
  refine wpAnyH_take (i := 11) (oi := _) (v := ?_) rfl (by kernel_rfl) (by kernel_rfl) (by kernel_rfl) (fun _ _ _ h => h) (Or.inl ⟨by rfl, ?_⟩) (by assumption) ?_
  rotate_left
  · intro w hSw
    (try dsimp only at hSw)
    obtain ⟨g0, g1, g2, _⟩ := hSw
    go_simp
    with_reducible rfl
  try simp only [List.getElem_toArray, List.getElem_cons_succ, List.getElem_cons_zero, Act.put, List.setIfInBounds_toArray, List.set_cons_zero, List.set_cons_succ]
  refine wpAnyH_ready (rs := [2, 7]) (by kernel_rfl) (by simp) ?_
  refine AllReadyH.cons (o := _) rfl (fun K hK => ?_) ?_
  · go_simp
    refine hK.out _ _ (MK.out _ (hS.2.2.2.alloc hS.2.2.2.size _)) (fun hS => ?_)
    clear hK K
    try simp only [List.getElem_toArray, List.getElem_cons_succ, List.getElem_cons_zero, Act.put, List.setIfInBounds_toArray, List.set_cons_zero, List.set_cons_succ]
    refine wpAnyH_ready (rs := [3, 7]) (by kernel_rfl) (by simp) ?_
    refine AllReadyH.cons (o := _) rfl (fun K hK => ?_) ?_
    · go_simp
      refine hK.out _ _ hS (fun hS => ?_)
      clear hK K
      try simp only [List.getElem_toArray, List.getElem_cons_succ, List.getElem_cons_zero, Act.put, List.setIfInBounds_toArray, List.set_cons_zero, List.set_cons_succ]
      refine wpAnyH_ready (rs := [7]) (by kernel_rfl) (by simp) ?_
      refine AllReadyH.cons (o := _) rfl (fun K hK => ?_) ?_
      · go_simp
        refine (c1 _).mono ?_
        rintro e w7 ⟨rfl, x7⟩
        show K _ _
        refine hK.out _ _ (MK.out _ (hS.2.2.2.trans (x7.mono hS.2.2.2.size))) (fun hS => ?_)
        clear hK K
        try simp only [List.getElem_toArray, List.getElem_cons_succ, List.getElem_cons_zero, Act.put, List.setIfInBounds_toArray, List.set_cons_zero, List.set_cons_succ]
        refine wpAnyH_take (i := 8) (oi := _) (v := ?_) rfl (by kernel_rfl) (by kernel_rfl) (by kernel_rfl) (fun _ _ _ h => h) (Or.inl ⟨by rfl, ?_⟩) (by assumption) ?_
        rotate_left
        · intro w hSw
          (try dsimp only at hSw)
          obtain ⟨g0, g1, g2, _⟩ := hSw
          go_simp
          with_reducible rfl
        try simp only [List.getElem_toArray, List.getElem_cons_succ, List.getElem_cons_zero, Act.put, List.setIfInBounds_toArray, List.set_cons_zero, List.set_cons_succ]
        refine wpAnyH_ready (rs := [12]) (by kernel_rfl) (by simp) ?_
        refine AllReadyH.cons (o := _) rfl (fun K hK => ?_) ?_
        · go_simp
          refine (c2 _).mono ?_
          rintro e w12 ⟨rfl, x12⟩
          show K _ _
          refine hK.out _ _ (MK.out _ (hS.2.2.2.trans (x12.mono hS.2.2.2.size))) (fun hS => ?_)
          clear hK K
          try simp only [List.getElem_toArray, List.getElem_cons_succ, List.getElem_cons_zero, Act.put, List.setIfInBounds_toArray, List.set_cons_zero, List.set_cons_succ]
          refine wpAnyH_take (i := 13) (oi := _) (v := ?_) rfl (by kernel_rfl) (by kernel_rfl) (by kernel_rfl) (fun _ _ _ h => h) (Or.inl ⟨by rfl, ?_⟩) (by assumption) ?_
          rotate_left
          · intro w hSw
            (try dsimp only at hSw)
            obtain ⟨g0, g1, g2, _⟩ := hSw
            go_simp
            with_reducible rfl
          try simp only [List.getElem_toArray, List.getElem_cons_succ, List.getElem_cons_zero, Act.put, List.setIfInBounds_toArray, List.set_cons_zero, List.set_cons_succ]
          refine wpAnyH_take (i := 14) (oi := _) (v := ?_) rfl (by kernel_rfl) (by kernel_rfl) (by kernel_rfl) (fun _ _ _ h => h) (Or.inl ⟨by rfl, ?_⟩) (by assumption) ?_
          rotate_left
          · intro w hSw
            (try dsimp only at hSw)
            obtain ⟨g0, g1, g2, _⟩ := hSw
            go_simp
            with_reducible rfl
          try simp only [List.getElem_toArray, List.getElem_cons_succ, List.getElem_cons_zero, Act.put, List.setIfInBounds_toArray, List.set_cons_zero, List.set_cons_succ]
          refine wpAnyH_done (by kernel_rfl) (NoPanic.normal ?_) _
          have B2 := B1.trans (hS.2.2.2.mono B1.size)
          have A2 := A1.on hS.2.2.2
          clear hS MK A1 B1 c1 c2 hconv
          try clear hcc
          obtain ⟨W2, hW2⟩ : ∃ W2 : World, W2 = w12 := ⟨_, rfl⟩
          rw [← hW2] at A2 B2 ⊢
          clear hW2
          obtain ⟨s2, x0, x1, x2, x3, x4⟩ := id A2
          have y3 : ∀ q : Later W2.heap.size W2, q.u.cell? ⟨w.heap.size, 3, none⟩ = some (.int .u32 (da : Int)) := fun q => q.block s2 x3
          have y4 : ∀ q : Later W2.heap.size W2, q.u.cell? ⟨w.heap.size, 4, none⟩ = some (.int .u16 (dp : Int)) := fun q => q.block s2 x4
          go_wp2_with fail
          refine region_later (B := W2.heap.size) (by kernel_rfl) (by kernel_rfl) ?_
          repeat (go_big_quiet_step (first
            | (go_at_call 21; exact later_of _ (Nat.le_refl _) (c3 _))
            | (go_at_call 22; exact later_of _ (Nat.le_refl _) (c4 _))))
          refine later_end fun w3 b3 => ?_
          have B3 := B2.trans (b3.mono B2.size)
          clear B2 b3 A2 s2 x0 x1 x2 x3 x4 y3 y4 c3 c4
          go_wp2
          go_ret
          rw [HV.out]
          exact ⟨rfl, B3⟩
        exact AllReadyH.nil
      exact AllReadyH.nil
    refine AllReadyH.cons (o := _) rfl (fun K hK => ?_) ?_
    · go_simp
      refine (c1 _).mono ?_
      rintro e w7 ⟨rfl, x7⟩
      show K _ _
      have hcc := keepNew x7 (cellNew _ _ _)
      try simp only [World.size_drew] at hcc
      refine hK.out _ _ (MK.out _ (hS.2.2.2.trans (x7.mono hS.2.2.2.size))) (fun hS => ?_)
      clear hK K
      try simp only [List.getElem_toArray, List.getElem_cons_succ, List.getElem_cons_zero, Act.put, List.setIfInBounds_toArray, List.set_cons_zero, List.set_cons_succ]
      refine wpAnyH_ready (rs := [3, 12]) (by kernel_rfl) (by simp) ?_
      refine AllReadyH.cons (o := _) rfl (fun K hK => ?_) ?_
      · go_simp
        refine hK.out _ _ hS (fun hS => ?_)
        clear hK K
        try simp only [List.getElem_toArray, List.getElem_cons_succ, List.getElem_cons_zero, Act.put, List.setIfInBounds_toArray, List.set_cons_zero, List.set_cons_succ]
        refine wpAnyH_take (i := 8) (oi := _) (v := ?_) rfl (by kernel_rfl) (by kernel_rfl) (by kernel_rfl) (fun _ _ _ h => h) (Or.inl ⟨by rfl, ?_⟩) (by assumption) ?_
        rotate_left
        · intro w hSw
          (try dsimp only at hSw)
          obtain ⟨g0, g1, g2, _⟩ := hSw
          go_simp
          with_reducible rfl
        try simp only [List.getElem_toArray, List.getElem_cons_succ, List.getElem_cons_zero, Act.put, List.setIfInBounds_toArray, List.set_cons_zero, List.set_cons_succ]
        refine wpAnyH_ready (rs := [12]) (by kernel_rfl) (by simp) ?_
        refine AllReadyH.cons (o := _) rfl (fun K hK => ?_) ?_
        · go_simp
          refine (c2 _).mono ?_
          rintro e w12 ⟨rfl, x12⟩
          show K _ _
          refine hK.out _ _ (MK.out _ (hS.2.2.2.trans (x12.mono hS.2.2.2.size))) (fun hS => ?_)
          clear hK K
          try simp only [List.getElem_toArray, List.getElem_cons_succ, List.getElem_cons_zero, Act.put, List.setIfInBounds_toArray, List.set_cons_zero, List.set_cons_succ]
          refine wpAnyH_take (i := 13) (oi := _) (v := ?_) rfl (by kernel_rfl) (by kernel_rfl) (by kernel_rfl) (fun _ _ _ h => h) (Or.inl ⟨by rfl, ?_⟩) (by assumption) ?_
          rotate_left
          · intro w hSw
            (try dsimp only at hSw)
            obtain ⟨g0, g1, g2, _⟩ := hSw
            go_simp
            with_reducible rfl
          try simp only [List.getElem_toArray, List.getElem_cons_succ, List.getElem_cons_zero, Act.put, List.setIfInBounds_toArray, List.set_cons_zero, List.set_cons_succ]
          refine wpAnyH_take (i := 14) (oi := _) (v := ?_) rfl (by kernel_rfl) (by kernel_rfl) (by kernel_rfl) (fun _ _ _ h => h) (Or.inl ⟨by rfl, ?_⟩) (by assumption) ?_
          rotate_left
          · intro w hSw
            (try dsimp only at hSw)
            obtain ⟨g0, g1, g2, _⟩ := hSw
            go_simp
            with_reducible rfl
          try simp only [List.getElem_toArray, List.getElem_cons_succ, List.getElem_cons_zero, Act.put, List.setIfInBounds_toArray, List.set_cons_zero, List.set_cons_succ]
          refine wpAnyH_done (by kernel_rfl) (NoPanic.normal ?_) _
          have B2 := B1.trans (hS.2.2.2.mono B1.size)
          have A2 := A1.on hS.2.2.2
          clear hS MK A1 B1 c1 c2 hconv
          try clear hcc
          obtain ⟨W2, hW2⟩ : ∃ W2 : World, W2 = w12 := ⟨_, rfl⟩
          rw [← hW2] at A2 B2 ⊢
          clear hW2
          obtain ⟨s2, x0, x1, x2, x3, x4⟩ := id A2
          have y3 : ∀ q : Later W2.heap.size W2, q.u.cell? ⟨w.heap.size, 3, none⟩ = some (.int .u32 (da : Int)) := fun q => q.block s2 x3
          have y4 : ∀ q : Later W2.heap.size W2, q.u.cell? ⟨w.heap.size, 4, none⟩ = some (.int .u16 (dp : Int)) := fun q => q.block s2 x4
          go_wp2_with fail
          refine region_later (B := W2.heap.size) (by kernel_rfl) (by kernel_rfl) ?_
          repeat (go_big_quiet_step (first
            | (go_at_call 21; exact later_of _ (Nat.le_refl _) (c3 _))
            | (go_at_call 22; exact later_of _ (Nat.le_refl _) (c4 _))))
          refine later_end fun w3 b3 => ?_
          have B3 := B2.trans (b3.mono B2.size)
          clear B2 b3 A2 s2 x0 x1 x2 x3 x4 y3 y4 c3 c4
          go_wp2
          go_ret
          rw [HV.out]
          exact ⟨rfl, B3⟩
        exact AllReadyH.nil
      refine AllReadyH.cons (o := _) rfl (fun K hK => ?_) ?_
      · go_simp
        refine (c2 _).mono ?_
        rintro e w12 ⟨rfl, x12⟩
        show K _ _
        have hcc := keepNew x12 hcc
        try simp only [World.size_drew] at hcc
        refine hK.out _ _ (MK.out _ (hS.2.2.2.trans (x12.mono hS.2.2.2.size))) (fun hS => ?_)
        clear hK K
        try simp only [List.getElem_toArray, List.getElem_cons_succ, List.getElem_cons_zero, Act.put, List.setIfInBounds_toArray, List.set_cons_zero, List.set_cons_succ]
        refine wpAnyH_ready (rs := [3]) (by kernel_rfl) (by simp) ?_
        refine AllReadyH.cons (o := _) rfl (fun K hK => ?_) ?_
        · go_simp
          refine hK.out _ _ hS (fun hS => ?_)
          clear hK K
          try simp only [List.getElem_toArray, List.getElem_cons_succ, List.getElem_cons_zero, Act.put, List.setIfInBounds_toArray, List.set_cons_zero, List.set_cons_succ]
          refine wpAnyH_take (i := 8) (oi := _) (v := ?_) rfl (by kernel_rfl) (by kernel_rfl) (by kernel_rfl) (fun _ _ _ h => h) (Or.inl ⟨by rfl, ?_⟩) (by assumption) ?_
          rotate_left
          · intro w hSw
            (try dsimp only at hSw)
            obtain ⟨g0, g1, g2, _⟩ := hSw
            go_simp
            with_reducible rfl
          try simp only [List.getElem_toArray, List.getElem_cons_succ, List.getElem_cons_zero, Act.put, List.setIfInBounds_toArray, List.set_cons_zero, List.set_cons_succ]
          refine wpAnyH_take (i := 13) (oi := _) (v := ?_) rfl (by kernel_rfl) (by kernel_rfl) (by kernel_rfl) (fun _ _ _ h => h) (Or.inl ⟨by rfl, ?_⟩) (by assumption) ?_
          rotate_left
          · intro w hSw
            (try dsimp only at hSw)
            obtain ⟨g0, g1, g2, _⟩ := hSw
            go_simp
            with_reducible rfl
          try simp only [List.getElem_toArray, List.getElem_cons_succ, List.getElem_cons_zero, Act.put, List.setIfInBounds_toArray, List.set_cons_zero, List.set_cons_succ]
          refine wpAnyH_take (i := 14) (oi := _) (v := ?_) rfl (by kernel_rfl) (by kernel_rfl) (by kernel_rfl) (fun _ _ _ h => h) (Or.inl ⟨by rfl, ?_⟩) (by assumption) ?_
          rotate_left
          · intro w hSw
            (try dsimp only at hSw)
            obtain ⟨g0, g1, g2, _⟩ := hSw
            go_simp
            with_reducible rfl
          try simp only [List.getElem_toArray, List.getElem_cons_succ, List.getElem_cons_zero, Act.put, List.setIfInBounds_toArray, List.set_cons_zero, List.set_cons_succ]
          refine wpAnyH_done (by kernel_rfl) (NoPanic.normal ?_) _
          have B2 := B1.trans (hS.2.2.2.mono B1.size)
          have A2 := A1.on hS.2.2.2
          clear hS MK A1 B1 c1 c2 hconv
          try clear hcc
          obtain ⟨W2, hW2⟩ : ∃ W2 : World, W2 = w12 := ⟨_, rfl⟩
          rw [← hW2] at A2 B2 ⊢
          clear hW2
          obtain ⟨s2, x0, x1, x2, x3, x4⟩ := id A2
          have y3 : ∀ q : Later W2.heap.size W2, q.u.cell? ⟨w.heap.size, 3, none⟩ = some (.int .u32 (da : Int)) := fun q => q.block s2 x3
          have y4 : ∀ q : Later W2.heap.size W2, q.u.cell? ⟨w.heap.size, 4, none⟩ = some (.int .u16 (dp : Int)) := fun q => q.block s2 x4
          go_wp2_with fail
          refine region_later (B := W2.heap.size) (by kernel_rfl) (by kernel_rfl) ?_
          repeat (go_big_quiet_step (first
            | (go_at_call 21; exact later_of _ (Nat.le_refl _) (c3 _))
            | (go_at_call 22; exact later_of _ (Nat.le_refl _) (c4 _))))
          refine later_end fun w3 b3 => ?_
          have B3 := B2.trans (b3.mono B2.size)
          clear B2 b3 A2 s2 x0 x1 x2 x3 x4 y3 y4 c3 c4
          go_wp2
          go_ret
          rw [HV.out]
          exact ⟨rfl, B3⟩
        exact AllReadyH.nil
      exact AllReadyH.nil
    exact AllReadyH.nil
  refine AllReadyH.cons (o := _) rfl (fun K hK => ?_) ?_
  · go_simp
    refine (c1 _).mono ?_
    rintro e w7 ⟨rfl, x7⟩
    show K _ _
    refine hK.out _ _ (MK.out _ (hS.2.2.2.trans (x7.mono hS.2.2.2.size))) (fun hS => ?_)
    clear hK K
    try simp only [List.getElem_toArray, List.getElem_cons_succ, List.getElem_cons_zero, Act.put, List.setIfInBounds_toArray, List.set_cons_zero, List.set_cons_succ]
    refine wpAnyH_ready (rs := [2, 12]) (by kernel_rfl) (by simp) ?_
    refine AllReadyH.cons (o := _) rfl (fun K hK => ?_) ?_
    · go_simp
      refine hK.out _ _ (MK.out _ (hS.2.2.2.alloc hS.2.2.2.size _)) (fun hS => ?_)
      clear hK K
      try simp only [List.getElem_toArray, List.getElem_cons_succ, List.getElem_cons_zero, Act.put, List.setIfInBounds_toArray, List.set_cons_zero, List.set_cons_succ]
      refine wpAnyH_ready (rs := [3, 12]) (by kernel_rfl) (by simp) ?_
      refine AllReadyH.cons (o := _) rfl (fun K hK => ?_) ?_
      · go_simp
        refine hK.out _ _ hS (fun hS => ?_)
        clear hK K
        try simp only [List.getElem_toArray, List.getElem_cons_succ, List.getElem_cons_zero, Act.put, List.setIfInBounds_toArray, List.set_cons_zero, List.set_cons_succ]
        refine wpAnyH_take (i := 8) (oi := _) (v := ?_) rfl (by kernel_rfl) (by kernel_rfl) (by kernel_rfl) (fun _ _ _ h => h) (Or.inl ⟨by rfl, ?_⟩) (by assumption) ?_
        rotate_left
        · intro w hSw
          (try dsimp only at hSw)
          obtain ⟨g0, g1, g2, _⟩ := hSw
          go_simp
          with_reducible rfl
        try simp only [List.getElem_toArray, List.getElem_cons_succ, List.getElem_cons_zero, Act.put, List.setIfInBounds_toArray, List.set_cons_zero, List.set_cons_succ]
        refine wpAnyH_ready (rs := [12]) (by kernel_rfl) (by simp) ?_
        refine AllReadyH.cons (o := _) rfl (fun K hK => ?_) ?_
        · go_simp
          refine (c2 _).mono ?_
          rintro e w12 ⟨rfl, x12⟩
          show K _ _
          refine hK.out _ _ (MK.out _ (hS.2.2.2.trans (x12.mono hS.2.2.2.size))) (fun hS => ?_)
          clear hK K
          try simp only [List.getElem_toArray, List.getElem_cons_succ, List.getElem_cons_zero, Act.put, List.setIfInBounds_toArray, List.set_cons_zero, List.set_cons_succ]
          refine wpAnyH_take (i := 13) (oi := _) (v := ?_) rfl (by kernel_rfl) (by kernel_rfl) (by kernel_rfl) (fun _ _ _ h => h) (Or.inl ⟨by rfl, ?_⟩) (by assumption) ?_
          rotate_left
          · intro w hSw
            (try dsimp only at hSw)
            obtain ⟨g0, g1, g2, _⟩ := hSw
            go_simp
            with_reducible rfl
          try simp only [List.getElem_toArray, List.getElem_cons_succ, List.getElem_cons_zero, Act.put, List.setIfInBounds_toArray, List.set_cons_zero, List.set_cons_succ]
          refine wpAnyH_take (i := 14) (oi := _) (v := ?_) rfl (by kernel_rfl) (by kernel_rfl) (by kernel_rfl) (fun _ _ _ h => h) (Or.inl ⟨by rfl, ?_⟩) (by assumption) ?_
          rotate_left
          · intro w hSw
            (try dsimp only at hSw)
            obtain ⟨g0, g1, g2, _⟩ := hSw
            go_simp
            with_reducible rfl
          try simp only [List.getElem_toArray, List.getElem_cons_succ, List.getElem_cons_zero, Act.put, List.setIfInBounds_toArray, List.set_cons_zero, List.set_cons_succ]
          refine wpAnyH_done (by kernel_rfl) (NoPanic.normal ?_) _
          have B2 := B1.trans (hS.2.2.2.mono B1.size)
          have A2 := A1.on hS.2.2.2
          clear hS MK A1 B1 c1 c2 hconv
          try clear hcc
          obtain ⟨W2, hW2⟩ : ∃ W2 : World, W2 = w12 := ⟨_, rfl⟩
          rw [← hW2] at A2 B2 ⊢
          clear hW2
          obtain ⟨s2, x0, x1, x2, x3, x4⟩ := id A2
          have y3 : ∀ q : Later W2.heap.size W2, q.u.cell? ⟨w.heap.size, 3, none⟩ = some (.int .u32 (da : Int)) := fun q => q.block s2 x3
          have y4 : ∀ q : Later W2.heap.size W2, q.u.cell? ⟨w.heap.size, 4, none⟩ = some (.int .u16 (dp : Int)) := fun q => q.block s2 x4
          go_wp2_with fail
          refine region_later (B := W2.heap.size) (by kernel_rfl) (by kernel_rfl) ?_
          repeat (go_big_quiet_step (first
            | (go_at_call 21; exact later_of _ (Nat.le_refl _) (c3 _))
            | (go_at_call 22; exact later_of _ (Nat.le_refl _) (c4 _))))
          refine later_end fun w3 b3 => ?_
          have B3 := B2.trans (b3.mono B2.size)
          clear B2 b3 A2 s2 x0 x1 x2 x3 x4 y3 y4 c3 c4
          go_wp2
          go_ret
          rw [HV.out]
          exact ⟨rfl, B3⟩
        exact AllReadyH.nil
      refine AllReadyH.cons (o := _) rfl (fun K hK => ?_) ?_
      · go_simp
        refine (c2 _).mono ?_
        rintro e w12 ⟨rfl, x12⟩
        show K _ _
        have hcc := keepNew x12 (cellNew _ _ _)
        try simp only [World.size_drew] at hcc
        refine hK.out _ _ (MK.out _ (hS.2.2.2.trans (x12.mono hS.2.2.2.size))) (fun hS => ?_)
        clear hK K
        try simp only [List.getElem_toArray, List.getElem_cons_succ, List.getElem_cons_zero, Act.put, List.setIfInBounds_toArray, List.set_cons_zero, List.set_cons_succ]
        refine wpAnyH_ready (rs := [3]) (by kernel_rfl) (by simp) ?_
        refine AllReadyH.cons (o := _) rfl (fun K hK => ?_) ?_
        · go_simp
          refine hK.out _ _ hS (fun hS => ?_)
          clear hK K
          try simp only [List.getElem_toArray, List.getElem_cons_succ, List.getElem_cons_zero, Act.put, List.setIfInBounds_toArray, List.set_cons_zero, List.set_cons_succ]
          refine wpAnyH_take (i := 8) (oi := _) (v := ?_) rfl (by kernel_rfl) (by kernel_rfl) (by kernel_rfl) (fun _ _ _ h => h) (Or.inl ⟨by rfl, ?_⟩) (by assumption) ?_
          rotate_left
          · intro w hSw
            (try dsimp only at hSw)
            obtain ⟨g0, g1, g2, _⟩ := hSw
            go_simp
            with_reducible rfl
          try simp only [List.getElem_toArray, List.getElem_cons_succ, List.getElem_cons_zero, Act.put, List.setIfInBounds_toArray, List.set_cons_zero, List.set_cons_succ]
          refine wpAnyH_take (i := 13) (oi := _) (v := ?_) rfl (by kernel_rfl) (by kernel_rfl) (by kernel_rfl) (fun _ _ _ h => h) (Or.inl ⟨by rfl, ?_⟩) (by assumption) ?_
          rotate_left
          · intro w hSw
            (try dsimp only at hSw)
            obtain ⟨g0, g1, g2, _⟩ := hSw
            go_simp
            with_reducible rfl
          try simp only [List.getElem_toArray, List.getElem_cons_succ, List.getElem_cons_zero, Act.put, List.setIfInBounds_toArray, List.set_cons_zero, List.set_cons_succ]
          refine wpAnyH_take (i := 14) (oi := _) (v := ?_) rfl (by kernel_rfl) (by kernel_rfl) (by kernel_rfl) (fun _ _ _ h => h) (Or.inl ⟨by rfl, ?_⟩) (by assumption) ?_
          rotate_left
          · intro w hSw
            (try dsimp only at hSw)
            obtain ⟨g0, g1, g2, _⟩ := hSw
            go_simp
            with_reducible rfl
          try simp only [List.getElem_toArray, List.getElem_cons_succ, List.getElem_cons_zero, Act.put, List.setIfInBounds_toArray, List.set_cons_zero, List.set_cons_succ]
          refine wpAnyH_done (by kernel_rfl) (NoPanic.normal ?_) _
          have B2 := B1.trans (hS.2.2.2.mono B1.size)
          have A2 := A1.on hS.2.2.2
          clear hS MK A1 B1 c1 c2 hconv
          try clear hcc
          obtain ⟨W2, hW2⟩ : ∃ W2 : World, W2 = w12 := ⟨_, rfl⟩
          rw [← hW2] at A2 B2 ⊢
          clear hW2
          obtain ⟨s2, x0, x1, x2, x3, x4⟩ := id A2
          have y3 : ∀ q : Later W2.heap.size W2, q.u.cell? ⟨w.heap.size, 3, none⟩ = some (.int .u32 (da : Int)) := fun q => q.block s2 x3
          have y4 : ∀ q : Later W2.heap.size W2, q.u.cell? ⟨w.heap.size, 4, none⟩ = some (.int .u16 (dp : Int)) := fun q => q.block s2 x4
          go_wp2_with fail
          refine region_later (B := W2.heap.size) (by kernel_rfl) (by kernel_rfl) ?_
          repeat (go_big_quiet_step (first
            | (go_at_call 21; exact later_of _ (Nat.le_refl _) (c3 _))
            | (go_at_call 22; exact later_of _ (Nat.le_refl _) (c4 _))))
          refine later_end fun w3 b3 => ?_
          have B3 := B2.trans (b3.mono B2.size)
          clear B2 b3 A2 s2 x0 x1 x2 x3 x4 y3 y4 c3 c4
          go_wp2
          go_ret
          rw [HV.out]
          exact ⟨rfl, B3⟩
        exact AllReadyH.nil
      exact AllReadyH.nil
    refine AllReadyH.cons (o := _) rfl (fun K hK => ?_) ?_
    · go_simp
      refine (c2 _).mono ?_
      rintro e w12 ⟨rfl, x12⟩
      show K _ _
      refine hK.out _ _ (MK.out _ (hS.2.2.2.trans (x12.mono hS.2.2.2.size))) (fun hS => ?_)
      clear hK K
      try simp only [List.getElem_toArray, List.getElem_cons_succ, List.getElem_cons_zero, Act.put, List.setIfInBounds_toArray, List.set_cons_zero, List.set_cons_succ]
      refine wpAnyH_ready (rs := [2]) (by kernel_rfl) (by simp) ?_
      refine AllReadyH.cons (o := _) rfl (fun K hK => ?_) ?_
      · go_simp
        refine hK.out _ _ (MK.out _ (hS.2.2.2.alloc hS.2.2.2.size _)) (fun hS => ?_)
        clear hK K
        try simp only [List.getElem_toArray, List.getElem_cons_succ, List.getElem_cons_zero, Act.put, List.setIfInBounds_toArray, List.set_cons_zero, List.set_cons_succ]
        refine wpAnyH_ready (rs := [3]) (by kernel_rfl) (by simp) ?_
        refine AllReadyH.cons (o := _) rfl (fun K hK => ?_) ?_
        · go_simp
          refine hK.out _ _ hS (fun hS => ?_)
          clear hK K
          try simp only [List.getElem_toArray, List.getElem_cons_succ, List.getElem_cons_zero, Act.put, List.setIfInBounds_toArray, List.set_cons_zero, List.set_cons_succ]
          refine wpAnyH_take (i := 8) (oi := _) (v := ?_) rfl (by kernel_rfl) (by kernel_rfl) (by kernel_rfl) (fun _ _ _ h => h) (Or.inl ⟨by rfl, ?_⟩) (by assumption) ?_
          rotate_left
          · intro w hSw
            (try dsimp only at hSw)
            obtain ⟨g0, g1, g2, _⟩ := hSw
            go_simp
            with_reducible rfl
          try simp only [List.getElem_toArray, List.getElem_cons_succ, List.getElem_cons_zero, Act.put, List.setIfInBounds_toArray, List.set_cons_zero, List.set_cons_succ]
          refine wpAnyH_take (i := 13) (oi := _) (v := ?_) rfl (by kernel_rfl) (by kernel_rfl) (by kernel_rfl) (fun _ _ _ h => h) (Or.inl ⟨by rfl, ?_⟩) (by assumption) ?_
          rotate_left
          · intro w hSw
            (try dsimp only at hSw)
            obtain ⟨g0, g1, g2, _⟩ := hSw
            go_simp
            with_reducible rfl
          try simp only [List.getElem_toArray, List.getElem_cons_succ, List.getElem_cons_zero, Act.put, List.setIfInBounds_toArray, List.set_cons_zero, List.set_cons_succ]
          refine wpAnyH_take (i := 14) (oi := _) (v := ?_) rfl (by kernel_rfl) (by kernel_rfl) (by kernel_rfl) (fun _ _ _ h => h) (Or.inl ⟨by rfl, ?_⟩) (by assumption) ?_
          rotate_left
          · intro w hSw
            (try dsimp only at hSw)
            obtain ⟨g0, g1, g2, _⟩ := hSw
            go_simp
            with_reducible rfl
          try simp only [List.getElem_toArray, List.getElem_cons_succ, List.getElem_cons_zero, Act.put, List.setIfInBounds_toArray, List.set_cons_zero, List.set_cons_succ]
          refine wpAnyH_done (by kernel_rfl) (NoPanic.normal ?_) _
          have B2 := B1.trans (hS.2.2.2.mono B1.size)
          have A2 := A1.on hS.2.2.2
          clear hS MK A1 B1 c1 c2 hconv
          try clear hcc
          obtain ⟨W2, hW2⟩ : ∃ W2 : World, W2 = (w12).alloc (.cells #[.int .u8 (pr : Int)] 5) := ⟨_, rfl⟩
          rw [← hW2] at A2 B2 ⊢
          clear hW2
          obtain ⟨s2, x0, x1, x2, x3, x4⟩ := id A2
          have y3 : ∀ q : Later W2.heap.size W2, q.u.cell? ⟨w.heap.size, 3, none⟩ = some (.int .u32 (da : Int)) := fun q => q.block s2 x3
          have y4 : ∀ q : Later W2.heap.size W2, q.u.cell? ⟨w.heap.size, 4, none⟩ = some (.int .u16 (dp : Int)) := fun q => q.block s2 x4
          go_wp2_with fail
          refine region_later (B := W2.heap.size) (by kernel_rfl) (by kernel_rfl) ?_
          repeat (go_big_quiet_step (first
            | (go_at_call 21; exact later_of _ (Nat.le_refl _) (c3 _))
            | (go_at_call 22; exact later_of _ (Nat.le_refl _) (c4 _))))
          refine later_end fun w3 b3 => ?_
          have B3 := B2.trans (b3.mono B2.size)
          clear B2 b3 A2 s2 x0 x1 x2 x3 x4 y3 y4 c3 c4
          go_wp2
          go_ret
          rw [HV.out]
          exact ⟨rfl, B3⟩
        exact AllReadyH.nil
      exact AllReadyH.nil
    exact AllReadyH.nil
  exact AllReadyH.nil
  -- done
end Go.Proofs.Ytijippfcobgidaa
