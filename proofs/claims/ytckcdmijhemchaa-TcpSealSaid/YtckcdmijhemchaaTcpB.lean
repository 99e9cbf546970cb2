/- Contracts of the document's answers for layer 6: Parse. -/
import Derived.Test.YtckcdmijhemchaaTcpA
import Derived.Deep.RegionHeld3
import Derived.Test.YtckcdmijhemchaaBox10
namespace Go.Proofs.Ytckcdmijhemchaa
set_option linter.unusedVariables false
set_option linter.unusedSimpArgs false
open Go.ChangeShapes Go.WideShapes Go.ChangeAt Go.RowKit Go.PlainAid
attribute [local go_sem ↓] Go.wp_at_zero Go.wp_at_succ
set_option maxHeartbeats 4000000 in
set_option maxRecDepth 100000 in
theorem rparse6_ (s : ByteArray) (w : World) (hs : s.size ≤ 1000000) :
    Calls Try.prog 10 #[.string s] w fun e w' => e = .returned (.tuple #[.agg #[.int .u16 (tI s (g16 s 0)), .int .u16 (tI s (g16 s 2)), .int .u32 (tI s (g32 s 4)), .int .u32 (tI s (g32 s 8)), .int .u8 (tI s (bt s 12 % 16)), .int .u8 (tI s (bt s 13)), .int .u16 (tI s (g16 s 14)), .int .u16 (tI s (g16 s 16)), .int .u16 (tI s (g16 s 18)), .string (tO s)], .string (tP s), .bool (tOk s)]) ∧ Below w.heap.size w w' := by
  have hs2 : s.size ≤ maxLen := by unfold maxLen; omega
  have hb := get_bt s
  by_cases h20 : s.size < 20
  · have hk : tOk s = false := by unfold tOk; simp; omega
    obtain ⟨y1, y2, y3⟩ := tOk_no hk
    rw [y1, y1, y1, y1, y1, y1, y1, y1, y1, y2, y3, hk]
    have e1 : decide ((s.size : Int) < 20) = true := by simp; omega
    clear h20 hk y1 y2 y3 hb
    go_enter Try.func10, Try.ntmps10
    go_wp2
    refine bodyPost_ret (v := .tuple #[.agg #[.int .u16 0, .int .u16 0, .int .u32 0, .int .u32 0, .int .u8 0, .int .u8 0, .int .u16 0, .int .u16 0, .int .u16 0, .string ⟨#[]⟩], .string ⟨#[]⟩, .bool false]) (by simp [results, Try.results10, go_sem]) rfl ?_
    exact ⟨rfl, (Below.refl _ _).alloc (Nat.le_refl _) _⟩
  have e1 : decide ((s.size : Int) < 20) = false := by simp; omega
  have b0 := bt_nonneg s 12
  have b1 := bt_le s 12
  obtain ⟨n, hn⟩ : ∃ n, tOwn s = n := ⟨_, rfl⟩
  have e4 : bt s 12 / 16 * 4 = (n : Int) := by rw [← hn]; unfold tOwn; omega
  have n60 : n ≤ 60 := by omega
  have i12 : (12 : Int) < (s.size : Int) := by omega
  have i13 : (13 : Int) < (s.size : Int) := by omega
  by_cases h1 : n < 20
  · have hk : tOk s = false := by unfold tOk; rw [hn]; simp; omega
    obtain ⟨y1, y2, y3⟩ := tOk_no hk
    rw [y1, y1, y1, y1, y1, y1, y1, y1, y1, y2, y3, hk]
    have e2 : decide ((n : Int) < 20) = true := by simp; omega
    clear h20 hk y1 y2 y3 hn h1
    go_enter Try.func10, Try.ntmps10
    go_wp2
    refine bodyPost_ret (v := .tuple #[.agg #[.int .u16 0, .int .u16 0, .int .u32 0, .int .u32 0, .int .u8 0, .int .u8 0, .int .u16 0, .int .u16 0, .int .u16 0, .string ⟨#[]⟩], .string ⟨#[]⟩, .bool false]) (by simp [results, Try.results10, go_sem]) rfl ?_
    exact ⟨rfl, (Below.refl _ _).alloc (Nat.le_refl _) _⟩
  have e2 : decide ((n : Int) < 20) = false := by simp; omega
  by_cases h2 : s.size < n
  · have hk : tOk s = false := by unfold tOk; rw [hn]; simp; omega
    obtain ⟨y1, y2, y3⟩ := tOk_no hk
    rw [y1, y1, y1, y1, y1, y1, y1, y1, y1, y2, y3, hk]
    have e3 : decide (s.size < n) = true := by simp; omega
    clear h20 hk y1 y2 y3 hn h1 h2
    go_enter Try.func10, Try.ntmps10
    go_wp2
    refine bodyPost_ret (v := .tuple #[.agg #[.int .u16 0, .int .u16 0, .int .u32 0, .int .u32 0, .int .u8 0, .int .u8 0, .int .u16 0, .int .u16 0, .int .u16 0, .string ⟨#[]⟩], .string ⟨#[]⟩, .bool false]) (by simp [results, Try.results10, go_sem]) rfl ?_
    exact ⟨rfl, (Below.refl _ _).alloc (Nat.le_refl _) _⟩
  have e3 : decide (s.size < n) = false := by simp; omega
  have hk : tOk s = true := by unfold tOk; rw [hn]; simp; omega
  obtain ⟨_, _, _, y1, y2, y3⟩ := tOk_yes hk
  rw [y1, y1, y1, y1, y1, y1, y1, y1, y1, y2, y3, hk, hn]
  have c0 := fun u => two6_ s 0 u hs2 (by omega)
  have c2 := fun u => two6_ s 2 u hs2 (by omega)
  have c4 := fun u => four6_ s 4 u hs2 (by omega)
  have c8 := fun u => four6_ s 8 u hs2 (by omega)
  have c14 := fun u => two6_ s 14 u hs2 (by omega)
  have c16 := fun u => two6_ s 16 u hs2 (by omega)
  have c18 := fun u => two6_ s 18 u hs2 (by omega)
  have i20 : (20 : Int) ≤ (n : Int) := by omega
  have in_ : (n : Int) ≤ (s.size : Int) := by omega
  generalize g16 s 0 = v0 at *
  generalize g16 s 2 = v1 at *
  generalize g32 s 4 = v2 at *
  generalize g32 s 8 = v3 at *
  generalize g16 s 14 = v6 at *
  generalize g16 s 16 = v7 at *
  generalize g16 s 18 = v8 at *
  obtain ⟨v4, hv4⟩ : ∃ v, bt s 12 % 16 = v := ⟨_, rfl⟩
  have hv4' : (bt s 12).tmod 16 = v4 := by rw [Int.tmod_eq_emod_of_nonneg b0]; exact hv4
  obtain ⟨v5, hv5⟩ : ∃ v, bt s 13 = v := ⟨_, rfl⟩
  rw [hv4, hv5]
  clear h20 hk y1 y2 y3 hn h1 h2
  go_enter Try.func10, Try.ntmps10
  go_wp2_with fail
  obtain ⟨w1, hw1⟩ : ∃ w1, w1 = w.alloc (.cells #[.int .u16 0, .int .u16 0, .int .u32 0, .int .u32 0, .int .u8 0, .int .u8 0, .int .u16 0, .int .u16 0, .int .u16 0, .string ⟨#[]⟩] 29) := ⟨_, rfl⟩
  have B1 : Below w.heap.size w w1 := by rw [hw1]; exact (Below.refl _ _).alloc (Nat.le_refl _) _
  have R1 := Box10.make w (.int .u16 0) (.int .u16 0) (.int .u32 0) (.int .u32 0) (.int .u8 0) (.int .u8 0) (.int .u16 0) (.int .u16 0) (.int .u16 0) (.string ⟨#[]⟩) 29
  have fz1 : ∀ j, w1.frozen? ⟨w.heap.size, j, none⟩ = false := by rw [hw1]; intro j; simp [go_sem]
  rw [← hw1] at R1 ⊢
  clear hw1
  refine wp_region_noPanic ?_
  refine wp_region_held_drew (S := (fun w' => True)) (by kernel_rfl) trivial (fun hHeld => ?_)
  refine wpAnyH_take (i := 0) (oi := _) (v := ?_) rfl (by kernel_rfl) (by kernel_rfl) (by kernel_rfl) (fun _ _ _ h => h) (Or.inl ⟨by rfl, ?_⟩) (by assumption) ?_
  rotate_left
  · intro w hSw
    go_simp
    with_reducible rfl
  try simp only [List.getElem_toArray, List.getElem_cons_succ, List.getElem_cons_zero, Act.put, List.setIfInBounds_toArray, List.set_cons_zero, List.set_cons_succ]
  refine wpAnyH_take (i := 2) (oi := _) (v := ?_) rfl (by kernel_rfl) (by kernel_rfl) (by kernel_rfl) (fun _ _ _ h => h) (Or.inl ⟨by rfl, ?_⟩) (by assumption) ?_
  rotate_left
  · intro w hSw
    go_simp
    with_reducible rfl
  try simp only [List.getElem_toArray, List.getElem_cons_succ, List.getElem_cons_zero, Act.put, List.setIfInBounds_toArray, List.set_cons_zero, List.set_cons_succ]
  refine wpAnyH_take (i := 4) (oi := _) (v := ?_) rfl (by kernel_rfl) (by kernel_rfl) (by kernel_rfl) (fun _ _ _ h => h) (Or.inl ⟨by rfl, ?_⟩) (by assumption) ?_
  rotate_left
  · intro w hSw
    go_simp
    with_reducible rfl
  try simp only [List.getElem_toArray, List.getElem_cons_succ, List.getElem_cons_zero, Act.put, List.setIfInBounds_toArray, List.set_cons_zero, List.set_cons_succ]
  refine wpAnyH_take (i := 6) (oi := _) (v := ?_) rfl (by kernel_rfl) (by kernel_rfl) (by kernel_rfl) (fun _ _ _ h => h) (Or.inl ⟨by rfl, ?_⟩) (by assumption) ?_
  rotate_left
  · intro w hSw
    go_simp
    with_reducible rfl
  try simp only [List.getElem_toArray, List.getElem_cons_succ, List.getElem_cons_zero, Act.put, List.setIfInBounds_toArray, List.set_cons_zero, List.set_cons_succ]
  refine wpAnyH_take (i := 8) (oi := _) (v := ?_) rfl (by kernel_rfl) (by kernel_rfl) (by kernel_rfl) (fun _ _ _ h => h) (Or.inl ⟨by rfl, ?_⟩) (by assumption) ?_
  rotate_left
  · intro w hSw
    go_simp
    with_reducible rfl
  try simp only [List.getElem_toArray, List.getElem_cons_succ, List.getElem_cons_zero, Act.put, List.setIfInBounds_toArray, List.set_cons_zero, List.set_cons_succ]
  refine wpAnyH_take (i := 9) (oi := _) (v := ?_) rfl (by kernel_rfl) (by kernel_rfl) (by kernel_rfl) (fun _ _ _ h => h) (Or.inl ⟨by rfl, ?_⟩) (by assumption) ?_
  rotate_left
  · intro w hSw
    go_simp
    with_reducible rfl
  try simp only [List.getElem_toArray, List.getElem_cons_succ, List.getElem_cons_zero, Act.put, List.setIfInBounds_toArray, List.set_cons_zero, List.set_cons_succ]
  refine wpAnyH_take (i := 10) (oi := _) (v := ?_) rfl (by kernel_rfl) (by kernel_rfl) (by kernel_rfl) (fun _ _ _ h => h) (Or.inl ⟨by rfl, ?_⟩) (by assumption) ?_
  rotate_left
  · intro w hSw
    go_simp
    with_reducible rfl
  try simp only [List.getElem_toArray, List.getElem_cons_succ, List.getElem_cons_zero, Act.put, List.setIfInBounds_toArray, List.set_cons_zero, List.set_cons_succ]
  refine wpAnyH_take (i := 11) (oi := _) (v := ?_) rfl (by kernel_rfl) (by kernel_rfl) (by kernel_rfl) (fun _ _ _ h => h) (Or.inl ⟨by rfl, ?_⟩) (by assumption) ?_
  rotate_left
  · intro w hSw
    go_simp
    with_reducible rfl
  try simp only [List.getElem_toArray, List.getElem_cons_succ, List.getElem_cons_zero, Act.put, List.setIfInBounds_toArray, List.set_cons_zero, List.set_cons_succ]
  refine wpAnyH_take (i := 12) (oi := _) (v := ?_) rfl (by kernel_rfl) (by kernel_rfl) (by kernel_rfl) (fun _ _ _ h => h) (Or.inl ⟨by rfl, ?_⟩) (by assumption) ?_
  rotate_left
  · intro w hSw
    go_simp
    with_reducible rfl
  try simp only [List.getElem_toArray, List.getElem_cons_succ, List.getElem_cons_zero, Act.put, List.setIfInBounds_toArray, List.set_cons_zero, List.set_cons_succ]
  refine wpAnyH_take (i := 13) (oi := _) (v := ?_) rfl (by kernel_rfl) (by kernel_rfl) (by kernel_rfl) (fun _ _ _ h => h) (Or.inl ⟨by rfl, ?_⟩) (by assumption) ?_
  rotate_left
  · intro w hSw
    go_simp
    with_reducible rfl
  try simp only [List.getElem_toArray, List.getElem_cons_succ, List.getElem_cons_zero, Act.put, List.setIfInBounds_toArray, List.set_cons_zero, List.set_cons_succ]
  refine wpAnyH_take (i := 15) (oi := _) (v := ?_) rfl (by kernel_rfl) (by kernel_rfl) (by kernel_rfl) (fun _ _ _ h => h) (Or.inl ⟨by rfl, ?_⟩) (by assumption) ?_
  rotate_left
  · intro w hSw
    go_simp
    with_reducible rfl
  try simp only [List.getElem_toArray, List.getElem_cons_succ, List.getElem_cons_zero, Act.put, List.setIfInBounds_toArray, List.set_cons_zero, List.set_cons_succ]
  refine wpAnyH_take (i := 17) (oi := _) (v := ?_) rfl (by kernel_rfl) (by kernel_rfl) (by kernel_rfl) (fun _ _ _ h => h) (Or.inl ⟨by rfl, ?_⟩) (by assumption) ?_
  rotate_left
  · intro w hSw
    go_simp
    with_reducible rfl
  try simp only [List.getElem_toArray, List.getElem_cons_succ, List.getElem_cons_zero, Act.put, List.setIfInBounds_toArray, List.set_cons_zero, List.set_cons_succ]
  refine wpAnyH_take (i := 19) (oi := _) (v := ?_) rfl (by kernel_rfl) (by kernel_rfl) (by kernel_rfl) (fun _ _ _ h => h) (Or.inl ⟨by rfl, ?_⟩) (by assumption) ?_
  rotate_left
  · intro w hSw
    go_simp
    with_reducible rfl
  try simp only [List.getElem_toArray, List.getElem_cons_succ, List.getElem_cons_zero, Act.put, List.setIfInBounds_toArray, List.set_cons_zero, List.set_cons_succ]
  refine wpAnyH_take (i := 20) (oi := _) (v := ?_) rfl (by kernel_rfl) (by kernel_rfl) (by kernel_rfl) (fun _ _ _ h => h) (Or.inl ⟨by rfl, ?_⟩) (by assumption) ?_
  rotate_left
  · intro w hSw
    go_simp
    with_reducible rfl
  try simp only [List.getElem_toArray, List.getElem_cons_succ, List.getElem_cons_zero, Act.put, List.setIfInBounds_toArray, List.set_cons_zero, List.set_cons_succ]
  refine wpAnyH_take (i := 21) (oi := _) (v := ?_) rfl (by kernel_rfl) (by kernel_rfl) (by kernel_rfl) (fun _ _ _ h => h) (Or.inl ⟨by rfl, ?_⟩) (by assumption) ?_
  rotate_left
  · intro w hSw
    go_simp
    with_reducible rfl
  try simp only [List.getElem_toArray, List.getElem_cons_succ, List.getElem_cons_zero, Act.put, List.setIfInBounds_toArray, List.set_cons_zero, List.set_cons_succ]
  refine wpAnyH_ready (rs := [1, 23]) (by kernel_rfl) (by simp) ?_
  refine AllReadyH.cons (o := _) rfl (fun K hK => ?_) ?_
  · go_simp
    refine (c0 _).mono ?_
    rintro e w5 ⟨rfl, rfl⟩
    show K _ _
    refine hK.out _ _ trivial (fun _ => ?_)
    clear hK K
    try simp only [List.getElem_toArray, List.getElem_cons_succ, List.getElem_cons_zero, Act.put, List.setIfInBounds_toArray, List.set_cons_zero, List.set_cons_succ]
    refine wpAnyH_ready (rs := [3, 23]) (by kernel_rfl) (by simp) ?_
    refine AllReadyH.cons (o := _) rfl (fun K hK => ?_) ?_
    · go_simp
      refine (c2 _).mono ?_
      rintro e w5 ⟨rfl, rfl⟩
      show K _ _
      refine hK.out _ _ trivial (fun _ => ?_)
      clear hK K
      try simp only [List.getElem_toArray, List.getElem_cons_succ, List.getElem_cons_zero, Act.put, List.setIfInBounds_toArray, List.set_cons_zero, List.set_cons_succ]
      refine wpAnyH_ready (rs := [5, 23]) (by kernel_rfl) (by simp) ?_
      refine AllReadyH.cons (o := _) rfl (fun K hK => ?_) ?_
      · go_simp
        refine (c4 _).mono ?_
        rintro e w5 ⟨rfl, rfl⟩
        show K _ _
        refine hK.out _ _ trivial (fun _ => ?_)
        clear hK K
        try simp only [List.getElem_toArray, List.getElem_cons_succ, List.getElem_cons_zero, Act.put, List.setIfInBounds_toArray, List.set_cons_zero, List.set_cons_succ]
        refine wpAnyH_ready (rs := [7, 23]) (by kernel_rfl) (by simp) ?_
        refine AllReadyH.cons (o := _) rfl (fun K hK => ?_) ?_
        · go_simp
          refine (c8 _).mono ?_
          rintro e w5 ⟨rfl, rfl⟩
          show K _ _
          refine hK.out _ _ trivial (fun _ => ?_)
          clear hK K
          try simp only [List.getElem_toArray, List.getElem_cons_succ, List.getElem_cons_zero, Act.put, List.setIfInBounds_toArray, List.set_cons_zero, List.set_cons_succ]
          refine wpAnyH_ready (rs := [14, 23]) (by kernel_rfl) (by simp) ?_
          refine AllReadyH.cons (o := _) rfl (fun K hK => ?_) ?_
          · go_simp
            refine (c14 _).mono ?_
            rintro e w5 ⟨rfl, rfl⟩
            show K _ _
            refine hK.out _ _ trivial (fun _ => ?_)
            clear hK K
            try simp only [List.getElem_toArray, List.getElem_cons_succ, List.getElem_cons_zero, Act.put, List.setIfInBounds_toArray, List.set_cons_zero, List.set_cons_succ]
            refine wpAnyH_ready (rs := [16, 23]) (by kernel_rfl) (by simp) ?_
            refine AllReadyH.cons (o := _) rfl (fun K hK => ?_) ?_
            · go_simp
              refine (c16 _).mono ?_
              rintro e w5 ⟨rfl, rfl⟩
              show K _ _
              refine hK.out _ _ trivial (fun _ => ?_)
              clear hK K
              try simp only [List.getElem_toArray, List.getElem_cons_succ, List.getElem_cons_zero, Act.put, List.setIfInBounds_toArray, List.set_cons_zero, List.set_cons_succ]
              refine wpAnyH_ready (rs := [18, 23]) (by kernel_rfl) (by simp) ?_
              refine AllReadyH.cons (o := _) rfl (fun K hK => ?_) ?_
              · go_simp
                refine (c18 _).mono ?_
                rintro e w5 ⟨rfl, rfl⟩
                show K _ _
                refine hK.out _ _ trivial (fun _ => ?_)
                clear hK K
                try simp only [List.getElem_toArray, List.getElem_cons_succ, List.getElem_cons_zero, Act.put, List.setIfInBounds_toArray, List.set_cons_zero, List.set_cons_succ]
                refine wpAnyH_take (i := 22) (oi := _) (v := ?_) rfl (by kernel_rfl) (by kernel_rfl) (by kernel_rfl) (fun _ _ _ h => h) (Or.inl ⟨by rfl, ?_⟩) (by assumption) ?_
                rotate_left
                · intro w hSw
                  go_simp
                  with_reducible rfl
                try simp only [List.getElem_toArray, List.getElem_cons_succ, List.getElem_cons_zero, Act.put, List.setIfInBounds_toArray, List.set_cons_zero, List.set_cons_succ]
                refine wpAnyH_ready (rs := [23]) (by kernel_rfl) (by simp) ?_
                refine AllReadyH.cons (o := _) rfl (fun K hK => ?_) ?_
                · go_simp
                  refine hK.out _ _ trivial (fun _ => ?_)
                  clear hK K
                  try simp only [List.getElem_toArray, List.getElem_cons_succ, List.getElem_cons_zero, Act.put, List.setIfInBounds_toArray, List.set_cons_zero, List.set_cons_succ]
                  refine wpAnyH_ready (rs := [24]) (by kernel_rfl) (by simp) ?_
                  refine AllReadyH.cons (o := _) rfl (fun K hK => ?_) ?_
                  · go_simp
                    refine hK.out _ _ trivial (fun _ => ?_)
                    clear hK K
                    try simp only [List.getElem_toArray, List.getElem_cons_succ, List.getElem_cons_zero, Act.put, List.setIfInBounds_toArray, List.set_cons_zero, List.set_cons_succ]
                    refine wpAnyH_done (by kernel_rfl) (NoPanic.normal ?_) _
                    refine new10_ fun w9 x0 x1 x2 x3 x4 x5 x6 x7 x8 x9 B9 s9 => ?_
                    have R9 := R1.on B9
                    have B := B1.trans (B9.mono B1.size)
                    have fz9 : ∀ j, w9.frozen? ⟨w.heap.size, j, none⟩ = false := fun j => (B9.frozen (p := ⟨_, j, none⟩) R1.1).trans (fz1 j)
                    have hne : ¬ w.heap.size = w1.heap.size := by have := R1.1; omega
                    clear B9 c0 c2 c4 c8 c14 c16 c18 hb
                    go_wp2_with fail
                    refine wp_region_noPanic ?_
                    refine wp_region_held_drew (S := (fun w' => w'.cell? ⟨w1.heap.size, 0, none⟩ = some (.int .u16 v0) ∧ w'.cell? ⟨w1.heap.size, 1, none⟩ = some (.int .u16 v1) ∧ w'.cell? ⟨w1.heap.size, 2, none⟩ = some (.int .u32 v2) ∧ w'.cell? ⟨w1.heap.size, 3, none⟩ = some (.int .u32 v3) ∧ w'.cell? ⟨w1.heap.size, 4, none⟩ = some (.int .u8 v4) ∧ w'.cell? ⟨w1.heap.size, 5, none⟩ = some (.int .u8 v5) ∧ w'.cell? ⟨w1.heap.size, 6, none⟩ = some (.int .u16 v6) ∧ w'.cell? ⟨w1.heap.size, 7, none⟩ = some (.int .u16 v7) ∧ w'.cell? ⟨w1.heap.size, 8, none⟩ = some (.int .u16 v8) ∧ w'.cell? ⟨w1.heap.size, 9, none⟩ = some (.string (s.extract 20 n)))) (by kernel_rfl) ?_ (fun hHeld => ?_)
                    · simp [x0, x1, x2, x3, x4, x5, x6, x7, x8, x9]
                    refine wpAnyH_take (i := 0) (oi := _) (v := ?_) rfl (by kernel_rfl) (by kernel_rfl) (by kernel_rfl) (fun _ _ _ h => h) (Or.inl ⟨by rfl, ?_⟩) (by assumption) ?_
                    rotate_left
                    · intro w hSw
                      obtain ⟨g0, g1, g2, g3, g4, g5, g6, g7, g8, g9⟩ := hSw
                      go_simp
                      with_reducible rfl
                    try simp only [List.getElem_toArray, List.getElem_cons_succ, List.getElem_cons_zero, Act.put, List.setIfInBounds_toArray, List.set_cons_zero, List.set_cons_succ]
                    refine wpAnyH_take (i := 1) (oi := _) (v := ?_) rfl (by kernel_rfl) (by kernel_rfl) (by kernel_rfl) (fun _ _ _ h => h) (Or.inl ⟨by rfl, ?_⟩) (by assumption) ?_
                    rotate_left
                    · intro w hSw
                      obtain ⟨g0, g1, g2, g3, g4, g5, g6, g7, g8, g9⟩ := hSw
                      go_simp
                      with_reducible rfl
                    try simp only [List.getElem_toArray, List.getElem_cons_succ, List.getElem_cons_zero, Act.put, List.setIfInBounds_toArray, List.set_cons_zero, List.set_cons_succ]
                    refine wpAnyH_take (i := 2) (oi := _) (v := ?_) rfl (by kernel_rfl) (by kernel_rfl) (by kernel_rfl) (fun _ _ _ h => h) (Or.inl ⟨by rfl, ?_⟩) (by assumption) ?_
                    rotate_left
                    · intro w hSw
                      obtain ⟨g0, g1, g2, g3, g4, g5, g6, g7, g8, g9⟩ := hSw
                      go_simp
                      with_reducible rfl
                    try simp only [List.getElem_toArray, List.getElem_cons_succ, List.getElem_cons_zero, Act.put, List.setIfInBounds_toArray, List.set_cons_zero, List.set_cons_succ]
                    refine wpAnyH_take (i := 3) (oi := _) (v := ?_) rfl (by kernel_rfl) (by kernel_rfl) (by kernel_rfl) (fun _ _ _ h => h) (Or.inl ⟨by rfl, ?_⟩) (by assumption) ?_
                    rotate_left
                    · intro w hSw
                      obtain ⟨g0, g1, g2, g3, g4, g5, g6, g7, g8, g9⟩ := hSw
                      go_simp
                      with_reducible rfl
                    try simp only [List.getElem_toArray, List.getElem_cons_succ, List.getElem_cons_zero, Act.put, List.setIfInBounds_toArray, List.set_cons_zero, List.set_cons_succ]
                    obtain ⟨_, r0, r1, r2, r3, r4, r5, r6, r7, r8, r9⟩ := id R9
                    refine wpAnyH_ready (rs := [4]) (by kernel_rfl) (by simp) ?_
                    refine AllReadyH.cons (o := _) rfl (fun K hK => ?_) AllReadyH.nil
                    go_simp
                    refine box10d_ (b := w.heap.size) R9.some B (Nat.le_refl _) fun wz y0 y1 y2 y3 y4 y5 y6 y7 y8 y9 BZ far => ?_
                    have hS2 : wz.cell? ⟨w1.heap.size, 0, none⟩ = some (.int .u16 v0) ∧ wz.cell? ⟨w1.heap.size, 1, none⟩ = some (.int .u16 v1) ∧ wz.cell? ⟨w1.heap.size, 2, none⟩ = some (.int .u32 v2) ∧ wz.cell? ⟨w1.heap.size, 3, none⟩ = some (.int .u32 v3) ∧ wz.cell? ⟨w1.heap.size, 4, none⟩ = some (.int .u8 v4) ∧ wz.cell? ⟨w1.heap.size, 5, none⟩ = some (.int .u8 v5) ∧ wz.cell? ⟨w1.heap.size, 6, none⟩ = some (.int .u16 v6) ∧ wz.cell? ⟨w1.heap.size, 7, none⟩ = some (.int .u16 v7) ∧ wz.cell? ⟨w1.heap.size, 8, none⟩ = some (.int .u16 v8) ∧ wz.cell? ⟨w1.heap.size, 9, none⟩ = some (.string (s.extract 20 n)) :=
                      ⟨(far _ hne).trans x0, (far _ hne).trans x1, (far _ hne).trans x2, (far _ hne).trans x3, (far _ hne).trans x4, (far _ hne).trans x5, (far _ hne).trans x6, (far _ hne).trans x7, (far _ hne).trans x8, (far _ hne).trans x9⟩
                    refine hK.out _ _ hS2 (fun hHeld2 => ?_)
                    clear hK K hHeld hHeld2 far fz9 x0 x1 x2 x3 x4 x5 x6 x7 x8 x9 r0 r1 r2 r3 r4 r5 r6 r7 r8 r9 R9 B
                    try simp only [List.getElem_toArray, List.getElem_cons_succ, List.getElem_cons_zero, Act.put, List.setIfInBounds_toArray, List.set_cons_zero, List.set_cons_succ]
                    refine wpAnyH_ready (rs := [5]) (by kernel_rfl) (by simp) ?_
                    refine AllReadyH.cons (o := _) rfl (fun K hK => ?_) AllReadyH.nil
                    go_simp
                    refine hK.out _ _ hS2 (fun _ => ?_)
                    clear hK K
                    try simp only [List.getElem_toArray, List.getElem_cons_succ, List.getElem_cons_zero, Act.put, List.setIfInBounds_toArray, List.set_cons_zero, List.set_cons_succ]
                    refine wpAnyH_ready (rs := [6]) (by kernel_rfl) (by simp) ?_
                    refine AllReadyH.cons (o := _) rfl (fun K hK => ?_) AllReadyH.nil
                    go_simp
                    refine hK.out _ _ hS2 (fun _ => ?_)
                    clear hK K
                    try simp only [List.getElem_toArray, List.getElem_cons_succ, List.getElem_cons_zero, Act.put, List.setIfInBounds_toArray, List.set_cons_zero, List.set_cons_succ]
                    refine wpAnyH_done (by kernel_rfl) (NoPanic.normal ?_) _
                    clear hS2
                    go_wp2
                    refine bodyPost_ret (v := .tuple #[.agg #[.int .u16 v0, .int .u16 v1, .int .u32 v2, .int .u32 v3, .int .u8 v4, .int .u8 v5, .int .u16 v6, .int .u16 v7, .int .u16 v8, .string (s.extract 20 n)], .string (s.extract n s.size), .bool true]) (by simp [results, Try.results10, go_sem, y0, y1, y2, y3, y4, y5, y6, y7, y8, y9]) rfl ?_
                    exact ⟨rfl, BZ⟩
                  exact AllReadyH.nil
                exact AllReadyH.nil
              refine AllReadyH.cons (o := _) rfl (fun K hK => ?_) ?_
              · go_simp
                refine hK.out _ _ trivial (fun _ => ?_)
                clear hK K
                try simp only [List.getElem_toArray, List.getElem_cons_succ, List.getElem_cons_zero, Act.put, List.setIfInBounds_toArray, List.set_cons_zero, List.set_cons_succ]
                refine wpAnyH_ready (rs := [18]) (by kernel_rfl) (by simp) ?_
                refine AllReadyH.cons (o := _) rfl (fun K hK => ?_) ?_
                · go_simp
                  refine (c18 _).mono ?_
                  rintro e w5 ⟨rfl, rfl⟩
                  show K _ _
                  refine hK.out _ _ trivial (fun _ => ?_)
                  clear hK K
                  try simp only [List.getElem_toArray, List.getElem_cons_succ, List.getElem_cons_zero, Act.put, List.setIfInBounds_toArray, List.set_cons_zero, List.set_cons_succ]
                  refine wpAnyH_take (i := 22) (oi := _) (v := ?_) rfl (by kernel_rfl) (by kernel_rfl) (by kernel_rfl) (fun _ _ _ h => h) (Or.inl ⟨by rfl, ?_⟩) (by assumption) ?_
                  rotate_left
                  · intro w hSw
                    go_simp
                    with_reducible rfl
                  try simp only [List.getElem_toArray, List.getElem_cons_succ, List.getElem_cons_zero, Act.put, List.setIfInBounds_toArray, List.set_cons_zero, List.set_cons_succ]
                  refine wpAnyH_ready (rs := [24]) (by kernel_rfl) (by simp) ?_
                  refine AllReadyH.cons (o := _) rfl (fun K hK => ?_) ?_
                  · go_simp
                    refine hK.out _ _ trivial (fun _ => ?_)
                    clear hK K
                    try simp only [List.getElem_toArray, List.getElem_cons_succ, List.getElem_cons_zero, Act.put, List.setIfInBounds_toArray, List.set_cons_zero, List.set_cons_succ]
                    refine wpAnyH_done (by kernel_rfl) (NoPanic.normal ?_) _
                    refine new10_ fun w9 x0 x1 x2 x3 x4 x5 x6 x7 x8 x9 B9 s9 => ?_
                    have R9 := R1.on B9
                    have B := B1.trans (B9.mono B1.size)
                    have fz9 : ∀ j, w9.frozen? ⟨w.heap.size, j, none⟩ = false := fun j => (B9.frozen (p := ⟨_, j, none⟩) R1.1).trans (fz1 j)
                    have hne : ¬ w.heap.size = w1.heap.size := by have := R1.1; omega
                    clear B9 c0 c2 c4 c8 c14 c16 c18 hb
                    go_wp2_with fail
                    refine wp_region_noPanic ?_
                    refine wp_region_held_drew (S := (fun w' => w'.cell? ⟨w1.heap.size, 0, none⟩ = some (.int .u16 v0) ∧ w'.cell? ⟨w1.heap.size, 1, none⟩ = some (.int .u16 v1) ∧ w'.cell? ⟨w1.heap.size, 2, none⟩ = some (.int .u32 v2) ∧ w'.cell? ⟨w1.heap.size, 3, none⟩ = some (.int .u32 v3) ∧ w'.cell? ⟨w1.heap.size, 4, none⟩ = some (.int .u8 v4) ∧ w'.cell? ⟨w1.heap.size, 5, none⟩ = some (.int .u8 v5) ∧ w'.cell? ⟨w1.heap.size, 6, none⟩ = some (.int .u16 v6) ∧ w'.cell? ⟨w1.heap.size, 7, none⟩ = some (.int .u16 v7) ∧ w'.cell? ⟨w1.heap.size, 8, none⟩ = some (.int .u16 v8) ∧ w'.cell? ⟨w1.heap.size, 9, none⟩ = some (.string (s.extract 20 n)))) (by kernel_rfl) ?_ (fun hHeld => ?_)
                    · simp [x0, x1, x2, x3, x4, x5, x6, x7, x8, x9]
                    refine wpAnyH_take (i := 0) (oi := _) (v := ?_) rfl (by kernel_rfl) (by kernel_rfl) (by kernel_rfl) (fun _ _ _ h => h) (Or.inl ⟨by rfl, ?_⟩) (by assumption) ?_
                    rotate_left
                    · intro w hSw
                      obtain ⟨g0, g1, g2, g3, g4, g5, g6, g7, g8, g9⟩ := hSw
                      go_simp
                      with_reducible rfl
                    try simp only [List.getElem_toArray, List.getElem_cons_succ, List.getElem_cons_zero, Act.put, List.setIfInBounds_toArray, List.set_cons_zero, List.set_cons_succ]
                    refine wpAnyH_take (i := 1) (oi := _) (v := ?_) rfl (by kernel_rfl) (by kernel_rfl) (by kernel_rfl) (fun _ _ _ h => h) (Or.inl ⟨by rfl, ?_⟩) (by assumption) ?_
                    rotate_left
                    · intro w hSw
                      obtain ⟨g0, g1, g2, g3, g4, g5, g6, g7, g8, g9⟩ := hSw
                      go_simp
                      with_reducible rfl
                    try simp only [List.getElem_toArray, List.getElem_cons_succ, List.getElem_cons_zero, Act.put, List.setIfInBounds_toArray, List.set_cons_zero, List.set_cons_succ]
                    refine wpAnyH_take (i := 2) (oi := _) (v := ?_) rfl (by kernel_rfl) (by kernel_rfl) (by kernel_rfl) (fun _ _ _ h => h) (Or.inl ⟨by rfl, ?_⟩) (by assumption) ?_
                    rotate_left
                    · intro w hSw
                      obtain ⟨g0, g1, g2, g3, g4, g5, g6, g7, g8, g9⟩ := hSw
                      go_simp
                      with_reducible rfl
                    try simp only [List.getElem_toArray, List.getElem_cons_succ, List.getElem_cons_zero, Act.put, List.setIfInBounds_toArray, List.set_cons_zero, List.set_cons_succ]
                    refine wpAnyH_take (i := 3) (oi := _) (v := ?_) rfl (by kernel_rfl) (by kernel_rfl) (by kernel_rfl) (fun _ _ _ h => h) (Or.inl ⟨by rfl, ?_⟩) (by assumption) ?_
                    rotate_left
                    · intro w hSw
                      obtain ⟨g0, g1, g2, g3, g4, g5, g6, g7, g8, g9⟩ := hSw
                      go_simp
                      with_reducible rfl
                    try simp only [List.getElem_toArray, List.getElem_cons_succ, List.getElem_cons_zero, Act.put, List.setIfInBounds_toArray, List.set_cons_zero, List.set_cons_succ]
                    obtain ⟨_, r0, r1, r2, r3, r4, r5, r6, r7, r8, r9⟩ := id R9
                    refine wpAnyH_ready (rs := [4]) (by kernel_rfl) (by simp) ?_
                    refine AllReadyH.cons (o := _) rfl (fun K hK => ?_) AllReadyH.nil
                    go_simp
                    refine box10d_ (b := w.heap.size) R9.some B (Nat.le_refl _) fun wz y0 y1 y2 y3 y4 y5 y6 y7 y8 y9 BZ far => ?_
                    have hS2 : wz.cell? ⟨w1.heap.size, 0, none⟩ = some (.int .u16 v0) ∧ wz.cell? ⟨w1.heap.size, 1, none⟩ = some (.int .u16 v1) ∧ wz.cell? ⟨w1.heap.size, 2, none⟩ = some (.int .u32 v2) ∧ wz.cell? ⟨w1.heap.size, 3, none⟩ = some (.int .u32 v3) ∧ wz.cell? ⟨w1.heap.size, 4, none⟩ = some (.int .u8 v4) ∧ wz.cell? ⟨w1.heap.size, 5, none⟩ = some (.int .u8 v5) ∧ wz.cell? ⟨w1.heap.size, 6, none⟩ = some (.int .u16 v6) ∧ wz.cell? ⟨w1.heap.size, 7, none⟩ = some (.int .u16 v7) ∧ wz.cell? ⟨w1.heap.size, 8, none⟩ = some (.int .u16 v8) ∧ wz.cell? ⟨w1.heap.size, 9, none⟩ = some (.string (s.extract 20 n)) :=
                      ⟨(far _ hne).trans x0, (far _ hne).trans x1, (far _ hne).trans x2, (far _ hne).trans x3, (far _ hne).trans x4, (far _ hne).trans x5, (far _ hne).trans x6, (far _ hne).trans x7, (far _ hne).trans x8, (far _ hne).trans x9⟩
                    refine hK.out _ _ hS2 (fun hHeld2 => ?_)
                    clear hK K hHeld hHeld2 far fz9 x0 x1 x2 x3 x4 x5 x6 x7 x8 x9 r0 r1 r2 r3 r4 r5 r6 r7 r8 r9 R9 B
                    try simp only [List.getElem_toArray, List.getElem_cons_succ, List.getElem_cons_zero, Act.put, List.setIfInBounds_toArray, List.set_cons_zero, List.set_cons_succ]
                    refine wpAnyH_ready (rs := [5]) (by kernel_rfl) (by simp) ?_
                    refine AllReadyH.cons (o := _) rfl (fun K hK => ?_) AllReadyH.nil
                    go_simp
                    refine hK.out _ _ hS2 (fun _ => ?_)
                    clear hK K
                    try simp only [List.getElem_toArray, List.getElem_cons_succ, List.getElem_cons_zero, Act.put, List.setIfInBounds_toArray, List.set_cons_zero, List.set_cons_succ]
                    refine wpAnyH_ready (rs := [6]) (by kernel_rfl) (by simp) ?_
                    refine AllReadyH.cons (o := _) rfl (fun K hK => ?_) AllReadyH.nil
                    go_simp
                    refine hK.out _ _ hS2 (fun _ => ?_)
                    clear hK K
                    try simp only [List.getElem_toArray, List.getElem_cons_succ, List.getElem_cons_zero, Act.put, List.setIfInBounds_toArray, List.set_cons_zero, List.set_cons_succ]
                    refine wpAnyH_done (by kernel_rfl) (NoPanic.normal ?_) _
                    clear hS2
                    go_wp2
                    refine bodyPost_ret (v := .tuple #[.agg #[.int .u16 v0, .int .u16 v1, .int .u32 v2, .int .u32 v3, .int .u8 v4, .int .u8 v5, .int .u16 v6, .int .u16 v7, .int .u16 v8, .string (s.extract 20 n)], .string (s.extract n s.size), .bool true]) (by simp [results, Try.results10, go_sem, y0, y1, y2, y3, y4, y5, y6, y7, y8, y9]) rfl ?_
                    exact ⟨rfl, BZ⟩
                  exact AllReadyH.nil
                exact AllReadyH.nil
              exact AllReadyH.nil
            refine AllReadyH.cons (o := _) rfl (fun K hK => ?_) ?_
            · go_simp
              refine hK.out _ _ trivial (fun _ => ?_)
              clear hK K
              try simp only [List.getElem_toArray, List.getElem_cons_succ, List.getElem_cons_zero, Act.put, List.setIfInBounds_toArray, List.set_cons_zero, List.set_cons_succ]
              refine wpAnyH_ready (rs := [16]) (by kernel_rfl) (by simp) ?_
              refine AllReadyH.cons (o := _) rfl (fun K hK => ?_) ?_
              · go_simp
                refine (c16 _).mono ?_
                rintro e w5 ⟨rfl, rfl⟩
                show K _ _
                refine hK.out _ _ trivial (fun _ => ?_)
                clear hK K
                try simp only [List.getElem_toArray, List.getElem_cons_succ, List.getElem_cons_zero, Act.put, List.setIfInBounds_toArray, List.set_cons_zero, List.set_cons_succ]
                refine wpAnyH_ready (rs := [18]) (by kernel_rfl) (by simp) ?_
                refine AllReadyH.cons (o := _) rfl (fun K hK => ?_) ?_
                · go_simp
                  refine (c18 _).mono ?_
                  rintro e w5 ⟨rfl, rfl⟩
                  show K _ _
                  refine hK.out _ _ trivial (fun _ => ?_)
                  clear hK K
                  try simp only [List.getElem_toArray, List.getElem_cons_succ, List.getElem_cons_zero, Act.put, List.setIfInBounds_toArray, List.set_cons_zero, List.set_cons_succ]
                  refine wpAnyH_take (i := 22) (oi := _) (v := ?_) rfl (by kernel_rfl) (by kernel_rfl) (by kernel_rfl) (fun _ _ _ h => h) (Or.inl ⟨by rfl, ?_⟩) (by assumption) ?_
                  rotate_left
                  · intro w hSw
                    go_simp
                    with_reducible rfl
                  try simp only [List.getElem_toArray, List.getElem_cons_succ, List.getElem_cons_zero, Act.put, List.setIfInBounds_toArray, List.set_cons_zero, List.set_cons_succ]
                  refine wpAnyH_ready (rs := [24]) (by kernel_rfl) (by simp) ?_
                  refine AllReadyH.cons (o := _) rfl (fun K hK => ?_) ?_
                  · go_simp
                    refine hK.out _ _ trivial (fun _ => ?_)
                    clear hK K
                    try simp only [List.getElem_toArray, List.getElem_cons_succ, List.getElem_cons_zero, Act.put, List.setIfInBounds_toArray, List.set_cons_zero, List.set_cons_succ]
                    refine wpAnyH_done (by kernel_rfl) (NoPanic.normal ?_) _
                    refine new10_ fun w9 x0 x1 x2 x3 x4 x5 x6 x7 x8 x9 B9 s9 => ?_
                    have R9 := R1.on B9
                    have B := B1.trans (B9.mono B1.size)
                    have fz9 : ∀ j, w9.frozen? ⟨w.heap.size, j, none⟩ = false := fun j => (B9.frozen (p := ⟨_, j, none⟩) R1.1).trans (fz1 j)
                    have hne : ¬ w.heap.size = w1.heap.size := by have := R1.1; omega
                    clear B9 c0 c2 c4 c8 c14 c16 c18 hb
                    go_wp2_with fail
                    refine wp_region_noPanic ?_
                    refine wp_region_held_drew (S := (fun w' => w'.cell? ⟨w1.heap.size, 0, none⟩ = some (.int .u16 v0) ∧ w'.cell? ⟨w1.heap.size, 1, none⟩ = some (.int .u16 v1) ∧ w'.cell? ⟨w1.heap.size, 2, none⟩ = some (.int .u32 v2) ∧ w'.cell? ⟨w1.heap.size, 3, none⟩ = some (.int .u32 v3) ∧ w'.cell? ⟨w1.heap.size, 4, none⟩ = some (.int .u8 v4) ∧ w'.cell? ⟨w1.heap.size, 5, none⟩ = some (.int .u8 v5) ∧ w'.cell? ⟨w1.heap.size, 6, none⟩ = some (.int .u16 v6) ∧ w'.cell? ⟨w1.heap.size, 7, none⟩ = some (.int .u16 v7) ∧ w'.cell? ⟨w1.heap.size, 8, none⟩ = some (.int .u16 v8) ∧ w'.cell? ⟨w1.heap.size, 9, none⟩ = some (.string (s.extract 20 n)))) (by kernel_rfl) ?_ (fun hHeld => ?_)
                    · simp [x0, x1, x2, x3, x4, x5, x6, x7, x8, x9]
                    refine wpAnyH_take (i := 0) (oi := _) (v := ?_) rfl (by kernel_rfl) (by kernel_rfl) (by kernel_rfl) (fun _ _ _ h => h) (Or.inl ⟨by rfl, ?_⟩) (by assumption) ?_
                    rotate_left
                    · intro w hSw
                      obtain ⟨g0, g1, g2, g3, g4, g5, g6, g7, g8, g9⟩ := hSw
                      go_simp
                      with_reducible rfl
                    try simp only [List.getElem_toArray, List.getElem_cons_succ, List.getElem_cons_zero, Act.put, List.setIfInBounds_toArray, List.set_cons_zero, List.set_cons_succ]
                    refine wpAnyH_take (i := 1) (oi := _) (v := ?_) rfl (by kernel_rfl) (by kernel_rfl) (by kernel_rfl) (fun _ _ _ h => h) (Or.inl ⟨by rfl, ?_⟩) (by assumption) ?_
                    rotate_left
                    · intro w hSw
                      obtain ⟨g0, g1, g2, g3, g4, g5, g6, g7, g8, g9⟩ := hSw
                      go_simp
                      with_reducible rfl
                    try simp only [List.getElem_toArray, List.getElem_cons_succ, List.getElem_cons_zero, Act.put, List.setIfInBounds_toArray, List.set_cons_zero, List.set_cons_succ]
                    refine wpAnyH_take (i := 2) (oi := _) (v := ?_) rfl (by kernel_rfl) (by kernel_rfl) (by kernel_rfl) (fun _ _ _ h => h) (Or.inl ⟨by rfl, ?_⟩) (by assumption) ?_
                    rotate_left
                    · intro w hSw
                      obtain ⟨g0, g1, g2, g3, g4, g5, g6, g7, g8, g9⟩ := hSw
                      go_simp
                      with_reducible rfl
                    try simp only [List.getElem_toArray, List.getElem_cons_succ, List.getElem_cons_zero, Act.put, List.setIfInBounds_toArray, List.set_cons_zero, List.set_cons_succ]
                    refine wpAnyH_take (i := 3) (oi := _) (v := ?_) rfl (by kernel_rfl) (by kernel_rfl) (by kernel_rfl) (fun _ _ _ h => h) (Or.inl ⟨by rfl, ?_⟩) (by assumption) ?_
                    rotate_left
                    · intro w hSw
                      obtain ⟨g0, g1, g2, g3, g4, g5, g6, g7, g8, g9⟩ := hSw
                      go_simp
                      with_reducible rfl
                    try simp only [List.getElem_toArray, List.getElem_cons_succ, List.getElem_cons_zero, Act.put, List.setIfInBounds_toArray, List.set_cons_zero, List.set_cons_succ]
                    obtain ⟨_, r0, r1, r2, r3, r4, r5, r6, r7, r8, r9⟩ := id R9
                    refine wpAnyH_ready (rs := [4]) (by kernel_rfl) (by simp) ?_
                    refine AllReadyH.cons (o := _) rfl (fun K hK => ?_) AllReadyH.nil
                    go_simp
                    refine box10d_ (b := w.heap.size) R9.some B (Nat.le_refl _) fun wz y0 y1 y2 y3 y4 y5 y6 y7 y8 y9 BZ far => ?_
                    have hS2 : wz.cell? ⟨w1.heap.size, 0, none⟩ = some (.int .u16 v0) ∧ wz.cell? ⟨w1.heap.size, 1, none⟩ = some (.int .u16 v1) ∧ wz.cell? ⟨w1.heap.size, 2, none⟩ = some (.int .u32 v2) ∧ wz.cell? ⟨w1.heap.size, 3, none⟩ = some (.int .u32 v3) ∧ wz.cell? ⟨w1.heap.size, 4, none⟩ = some (.int .u8 v4) ∧ wz.cell? ⟨w1.heap.size, 5, none⟩ = some (.int .u8 v5) ∧ wz.cell? ⟨w1.heap.size, 6, none⟩ = some (.int .u16 v6) ∧ wz.cell? ⟨w1.heap.size, 7, none⟩ = some (.int .u16 v7) ∧ wz.cell? ⟨w1.heap.size, 8, none⟩ = some (.int .u16 v8) ∧ wz.cell? ⟨w1.heap.size, 9, none⟩ = some (.string (s.extract 20 n)) :=
                      ⟨(far _ hne).trans x0, (far _ hne).trans x1, (far _ hne).trans x2, (far _ hne).trans x3, (far _ hne).trans x4, (far _ hne).trans x5, (far _ hne).trans x6, (far _ hne).trans x7, (far _ hne).trans x8, (far _ hne).trans x9⟩
                    refine hK.out _ _ hS2 (fun hHeld2 => ?_)
                    clear hK K hHeld hHeld2 far fz9 x0 x1 x2 x3 x4 x5 x6 x7 x8 x9 r0 r1 r2 r3 r4 r5 r6 r7 r8 r9 R9 B
                    try simp only [List.getElem_toArray, List.getElem_cons_succ, List.getElem_cons_zero, Act.put, List.setIfInBounds_toArray, List.set_cons_zero, List.set_cons_succ]
                    refine wpAnyH_ready (rs := [5]) (by kernel_rfl) (by simp) ?_
                    refine AllReadyH.cons (o := _) rfl (fun K hK => ?_) AllReadyH.nil
                    go_simp
                    refine hK.out _ _ hS2 (fun _ => ?_)
                    clear hK K
                    try simp only [List.getElem_toArray, List.getElem_cons_succ, List.getElem_cons_zero, Act.put, List.setIfInBounds_toArray, List.set_cons_zero, List.set_cons_succ]
                    refine wpAnyH_ready (rs := [6]) (by kernel_rfl) (by simp) ?_
                    refine AllReadyH.cons (o := _) rfl (fun K hK => ?_) AllReadyH.nil
                    go_simp
                    refine hK.out _ _ hS2 (fun _ => ?_)
                    clear hK K
                    try simp only [List.getElem_toArray, List.getElem_cons_succ, List.getElem_cons_zero, Act.put, List.setIfInBounds_toArray, List.set_cons_zero, List.set_cons_succ]
                    refine wpAnyH_done (by kernel_rfl) (NoPanic.normal ?_) _
                    clear hS2
                    go_wp2
                    refine bodyPost_ret (v := .tuple #[.agg #[.int .u16 v0, .int .u16 v1, .int .u32 v2, .int .u32 v3, .int .u8 v4, .int .u8 v5, .int .u16 v6, .int .u16 v7, .int .u16 v8, .string (s.extract 20 n)], .string (s.extract n s.size), .bool true]) (by simp [results, Try.results10, go_sem, y0, y1, y2, y3, y4, y5, y6, y7, y8, y9]) rfl ?_
                    exact ⟨rfl, BZ⟩
                  exact AllReadyH.nil
                exact AllReadyH.nil
              exact AllReadyH.nil
            exact AllReadyH.nil
          refine AllReadyH.cons (o := _) rfl (fun K hK => ?_) ?_
          · go_simp
            refine hK.out _ _ trivial (fun _ => ?_)
            clear hK K
            try simp only [List.getElem_toArray, List.getElem_cons_succ, List.getElem_cons_zero, Act.put, List.setIfInBounds_toArray, List.set_cons_zero, List.set_cons_succ]
            refine wpAnyH_ready (rs := [14]) (by kernel_rfl) (by simp) ?_
            refine AllReadyH.cons (o := _) rfl (fun K hK => ?_) ?_
            · go_simp
              refine (c14 _).mono ?_
              rintro e w5 ⟨rfl, rfl⟩
              show K _ _
              refine hK.out _ _ trivial (fun _ => ?_)
              clear hK K
              try simp only [List.getElem_toArray, List.getElem_cons_succ, List.getElem_cons_zero, Act.put, List.setIfInBounds_toArray, List.set_cons_zero, List.set_cons_succ]
              refine wpAnyH_ready (rs := [16]) (by kernel_rfl) (by simp) ?_
              refine AllReadyH.cons (o := _) rfl (fun K hK => ?_) ?_
              · go_simp
                refine (c16 _).mono ?_
                rintro e w5 ⟨rfl, rfl⟩
                show K _ _
                refine hK.out _ _ trivial (fun _ => ?_)
                clear hK K
                try simp only [List.getElem_toArray, List.getElem_cons_succ, List.getElem_cons_zero, Act.put, List.setIfInBounds_toArray, List.set_cons_zero, List.set_cons_succ]
                refine wpAnyH_ready (rs := [18]) (by kernel_rfl) (by simp) ?_
                refine AllReadyH.cons (o := _) rfl (fun K hK => ?_) ?_
                · go_simp
                  refine (c18 _).mono ?_
                  rintro e w5 ⟨rfl, rfl⟩
                  show K _ _
                  refine hK.out _ _ trivial (fun _ => ?_)
                  clear hK K
                  try simp only [List.getElem_toArray, List.getElem_cons_succ, List.getElem_cons_zero, Act.put, List.setIfInBounds_toArray, List.set_cons_zero, List.set_cons_succ]
                  refine wpAnyH_take (i := 22) (oi := _) (v := ?_) rfl (by kernel_rfl) (by kernel_rfl) (by kernel_rfl) (fun _ _ _ h => h) (Or.inl ⟨by rfl, ?_⟩) (by assumption) ?_
                  rotate_left
                  · intro w hSw
                    go_simp
                    with_reducible rfl
                  try simp only [List.getElem_toArray, List.getElem_cons_succ, List.getElem_cons_zero, Act.put, List.setIfInBounds_toArray, List.set_cons_zero, List.set_cons_succ]
                  refine wpAnyH_ready (rs := [24]) (by kernel_rfl) (by simp) ?_
                  refine AllReadyH.cons (o := _) rfl (fun K hK => ?_) ?_
                  · go_simp
                    refine hK.out _ _ trivial (fun _ => ?_)
                    clear hK K
                    try simp only [List.getElem_toArray, List.getElem_cons_succ, List.getElem_cons_zero, Act.put, List.setIfInBounds_toArray, List.set_cons_zero, List.set_cons_succ]
                    refine wpAnyH_done (by kernel_rfl) (NoPanic.normal ?_) _
                    refine new10_ fun w9 x0 x1 x2 x3 x4 x5 x6 x7 x8 x9 B9 s9 => ?_
                    have R9 := R1.on B9
                    have B := B1.trans (B9.mono B1.size)
                    have fz9 : ∀ j, w9.frozen? ⟨w.heap.size, j, none⟩ = false := fun j => (B9.frozen (p := ⟨_, j, none⟩) R1.1).trans (fz1 j)
                    have hne : ¬ w.heap.size = w1.heap.size := by have := R1.1; omega
                    clear B9 c0 c2 c4 c8 c14 c16 c18 hb
                    go_wp2_with fail
                    refine wp_region_noPanic ?_
                    refine wp_region_held_drew (S := (fun w' => w'.cell? ⟨w1.heap.size, 0, none⟩ = some (.int .u16 v0) ∧ w'.cell? ⟨w1.heap.size, 1, none⟩ = some (.int .u16 v1) ∧ w'.cell? ⟨w1.heap.size, 2, none⟩ = some (.int .u32 v2) ∧ w'.cell? ⟨w1.heap.size, 3, none⟩ = some (.int .u32 v3) ∧ w'.cell? ⟨w1.heap.size, 4, none⟩ = some (.int .u8 v4) ∧ w'.cell? ⟨w1.heap.size, 5, none⟩ = some (.int .u8 v5) ∧ w'.cell? ⟨w1.heap.size, 6, none⟩ = some (.int .u16 v6) ∧ w'.cell? ⟨w1.heap.size, 7, none⟩ = some (.int .u16 v7) ∧ w'.cell? ⟨w1.heap.size, 8, none⟩ = some (.int .u16 v8) ∧ w'.cell? ⟨w1.heap.size, 9, none⟩ = some (.string (s.extract 20 n)))) (by kernel_rfl) ?_ (fun hHeld => ?_)
                    · simp [x0, x1, x2, x3, x4, x5, x6, x7, x8, x9]
                    refine wpAnyH_take (i := 0) (oi := _) (v := ?_) rfl (by kernel_rfl) (by kernel_rfl) (by kernel_rfl) (fun _ _ _ h => h) (Or.inl ⟨by rfl, ?_⟩) (by assumption) ?_
                    rotate_left
                    · intro w hSw
                      obtain ⟨g0, g1, g2, g3, g4, g5, g6, g7, g8, g9⟩ := hSw
                      go_simp
                      with_reducible rfl
                    try simp only [List.getElem_toArray, List.getElem_cons_succ, List.getElem_cons_zero, Act.put, List.setIfInBounds_toArray, List.set_cons_zero, List.set_cons_succ]
                    refine wpAnyH_take (i := 1) (oi := _) (v := ?_) rfl (by kernel_rfl) (by kernel_rfl) (by kernel_rfl) (fun _ _ _ h => h) (Or.inl ⟨by rfl, ?_⟩) (by assumption) ?_
                    rotate_left
                    · intro w hSw
                      obtain ⟨g0, g1, g2, g3, g4, g5, g6, g7, g8, g9⟩ := hSw
                      go_simp
                      with_reducible rfl
                    try simp only [List.getElem_toArray, List.getElem_cons_succ, List.getElem_cons_zero, Act.put, List.setIfInBounds_toArray, List.set_cons_zero, List.set_cons_succ]
                    refine wpAnyH_take (i := 2) (oi := _) (v := ?_) rfl (by kernel_rfl) (by kernel_rfl) (by kernel_rfl) (fun _ _ _ h => h) (Or.inl ⟨by rfl, ?_⟩) (by assumption) ?_
                    rotate_left
                    · intro w hSw
                      obtain ⟨g0, g1, g2, g3, g4, g5, g6, g7, g8, g9⟩ := hSw
                      go_simp
                      with_reducible rfl
                    try simp only [List.getElem_toArray, List.getElem_cons_succ, List.getElem_cons_zero, Act.put, List.setIfInBounds_toArray, List.set_cons_zero, List.set_cons_succ]
                    refine wpAnyH_take (i := 3) (oi := _) (v := ?_) rfl (by kernel_rfl) (by kernel_rfl) (by kernel_rfl) (fun _ _ _ h => h) (Or.inl ⟨by rfl, ?_⟩) (by assumption) ?_
                    rotate_left
                    · intro w hSw
                      obtain ⟨g0, g1, g2, g3, g4, g5, g6, g7, g8, g9⟩ := hSw
                      go_simp
                      with_reducible rfl
                    try simp only [List.getElem_toArray, List.getElem_cons_succ, List.getElem_cons_zero, Act.put, List.setIfInBounds_toArray, List.set_cons_zero, List.set_cons_succ]
                    obtain ⟨_, r0, r1, r2, r3, r4, r5, r6, r7, r8, r9⟩ := id R9
                    refine wpAnyH_ready (rs := [4]) (by kernel_rfl) (by simp) ?_
                    refine AllReadyH.cons (o := _) rfl (fun K hK => ?_) AllReadyH.nil
                    go_simp
                    refine box10d_ (b := w.heap.size) R9.some B (Nat.le_refl _) fun wz y0 y1 y2 y3 y4 y5 y6 y7 y8 y9 BZ far => ?_
                    have hS2 : wz.cell? ⟨w1.heap.size, 0, none⟩ = some (.int .u16 v0) ∧ wz.cell? ⟨w1.heap.size, 1, none⟩ = some (.int .u16 v1) ∧ wz.cell? ⟨w1.heap.size, 2, none⟩ = some (.int .u32 v2) ∧ wz.cell? ⟨w1.heap.size, 3, none⟩ = some (.int .u32 v3) ∧ wz.cell? ⟨w1.heap.size, 4, none⟩ = some (.int .u8 v4) ∧ wz.cell? ⟨w1.heap.size, 5, none⟩ = some (.int .u8 v5) ∧ wz.cell? ⟨w1.heap.size, 6, none⟩ = some (.int .u16 v6) ∧ wz.cell? ⟨w1.heap.size, 7, none⟩ = some (.int .u16 v7) ∧ wz.cell? ⟨w1.heap.size, 8, none⟩ = some (.int .u16 v8) ∧ wz.cell? ⟨w1.heap.size, 9, none⟩ = some (.string (s.extract 20 n)) :=
                      ⟨(far _ hne).trans x0, (far _ hne).trans x1, (far _ hne).trans x2, (far _ hne).trans x3, (far _ hne).trans x4, (far _ hne).trans x5, (far _ hne).trans x6, (far _ hne).trans x7, (far _ hne).trans x8, (far _ hne).trans x9⟩
                    refine hK.out _ _ hS2 (fun hHeld2 => ?_)
                    clear hK K hHeld hHeld2 far fz9 x0 x1 x2 x3 x4 x5 x6 x7 x8 x9 r0 r1 r2 r3 r4 r5 r6 r7 r8 r9 R9 B
                    try simp only [List.getElem_toArray, List.getElem_cons_succ, List.getElem_cons_zero, Act.put, List.setIfInBounds_toArray, List.set_cons_zero, List.set_cons_succ]
                    refine wpAnyH_ready (rs := [5]) (by kernel_rfl) (by simp) ?_
                    refine AllReadyH.cons (o := _) rfl (fun K hK => ?_) AllReadyH.nil
                    go_simp
                    refine hK.out _ _ hS2 (fun _ => ?_)
                    clear hK K
                    try simp only [List.getElem_toArray, List.getElem_cons_succ, List.getElem_cons_zero, Act.put, List.setIfInBounds_toArray, List.set_cons_zero, List.set_cons_succ]
                    refine wpAnyH_ready (rs := [6]) (by kernel_rfl) (by simp) ?_
                    refine AllReadyH.cons (o := _) rfl (fun K hK => ?_) AllReadyH.nil
                    go_simp
                    refine hK.out _ _ hS2 (fun _ => ?_)
                    clear hK K
                    try simp only [List.getElem_toArray, List.getElem_cons_succ, List.getElem_cons_zero, Act.put, List.setIfInBounds_toArray, List.set_cons_zero, List.set_cons_succ]
                    refine wpAnyH_done (by kernel_rfl) (NoPanic.normal ?_) _
                    clear hS2
                    go_wp2
                    refine bodyPost_ret (v := .tuple #[.agg #[.int .u16 v0, .int .u16 v1, .int .u32 v2, .int .u32 v3, .int .u8 v4, .int .u8 v5, .int .u16 v6, .int .u16 v7, .int .u16 v8, .string (s.extract 20 n)], .string (s.extract n s.size), .bool true]) (by simp [results, Try.results10, go_sem, y0, y1, y2, y3, y4, y5, y6, y7, y8, y9]) rfl ?_
                    exact ⟨rfl, BZ⟩
                  exact AllReadyH.nil
                exact AllReadyH.nil
              exact AllReadyH.nil
            exact AllReadyH.nil
          exact AllReadyH.nil
        refine AllReadyH.cons (o := _) rfl (fun K hK => ?_) ?_
        · go_simp
          refine hK.out _ _ trivial (fun _ => ?_)
          clear hK K
          try simp only [List.getElem_toArray, List.getElem_cons_succ, List.getElem_cons_zero, Act.put, List.setIfInBounds_toArray, List.set_cons_zero, List.set_cons_succ]
          refine wpAnyH_ready (rs := [7]) (by kernel_rfl) (by simp) ?_
          refine AllReadyH.cons (o := _) rfl (fun K hK => ?_) ?_
          · go_simp
            refine (c8 _).mono ?_
            rintro e w5 ⟨rfl, rfl⟩
            show K _ _
            refine hK.out _ _ trivial (fun _ => ?_)
            clear hK K
            try simp only [List.getElem_toArray, List.getElem_cons_succ, List.getElem_cons_zero, Act.put, List.setIfInBounds_toArray, List.set_cons_zero, List.set_cons_succ]
            refine wpAnyH_ready (rs := [14]) (by kernel_rfl) (by simp) ?_
            refine AllReadyH.cons (o := _) rfl (fun K hK => ?_) ?_
            · go_simp
              refine (c14 _).mono ?_
              rintro e w5 ⟨rfl, rfl⟩
              show K _ _
              refine hK.out _ _ trivial (fun _ => ?_)
              clear hK K
              try simp only [List.getElem_toArray, List.getElem_cons_succ, List.getElem_cons_zero, Act.put, List.setIfInBounds_toArray, List.set_cons_zero, List.set_cons_succ]
              refine wpAnyH_ready (rs := [16]) (by kernel_rfl) (by simp) ?_
              refine AllReadyH.cons (o := _) rfl (fun K hK => ?_) ?_
              · go_simp
                refine (c16 _).mono ?_
                rintro e w5 ⟨rfl, rfl⟩
                show K _ _
                refine hK.out _ _ trivial (fun _ => ?_)
                clear hK K
                try simp only [List.getElem_toArray, List.getElem_cons_succ, List.getElem_cons_zero, Act.put, List.setIfInBounds_toArray, List.set_cons_zero, List.set_cons_succ]
                refine wpAnyH_ready (rs := [18]) (by kernel_rfl) (by simp) ?_
                refine AllReadyH.cons (o := _) rfl (fun K hK => ?_) ?_
                · go_simp
                  refine (c18 _).mono ?_
                  rintro e w5 ⟨rfl, rfl⟩
                  show K _ _
                  refine hK.out _ _ trivial (fun _ => ?_)
                  clear hK K
                  try simp only [List.getElem_toArray, List.getElem_cons_succ, List.getElem_cons_zero, Act.put, List.setIfInBounds_toArray, List.set_cons_zero, List.set_cons_succ]
                  refine wpAnyH_take (i := 22) (oi := _) (v := ?_) rfl (by kernel_rfl) (by kernel_rfl) (by kernel_rfl) (fun _ _ _ h => h) (Or.inl ⟨by rfl, ?_⟩) (by assumption) ?_
                  rotate_left
                  · intro w hSw
                    go_simp
                    with_reducible rfl
                  try simp only [List.getElem_toArray, List.getElem_cons_succ, List.getElem_cons_zero, Act.put, List.setIfInBounds_toArray, List.set_cons_zero, List.set_cons_succ]
                  refine wpAnyH_ready (rs := [24]) (by kernel_rfl) (by simp) ?_
                  refine AllReadyH.cons (o := _) rfl (fun K hK => ?_) ?_
                  · go_simp
                    refine hK.out _ _ trivial (fun _ => ?_)
                    clear hK K
                    try simp only [List.getElem_toArray, List.getElem_cons_succ, List.getElem_cons_zero, Act.put, List.setIfInBounds_toArray, List.set_cons_zero, List.set_cons_succ]
                    refine wpAnyH_done (by kernel_rfl) (NoPanic.normal ?_) _
                    refine new10_ fun w9 x0 x1 x2 x3 x4 x5 x6 x7 x8 x9 B9 s9 => ?_
                    have R9 := R1.on B9
                    have B := B1.trans (B9.mono B1.size)
                    have fz9 : ∀ j, w9.frozen? ⟨w.heap.size, j, none⟩ = false := fun j => (B9.frozen (p := ⟨_, j, none⟩) R1.1).trans (fz1 j)
                    have hne : ¬ w.heap.size = w1.heap.size := by have := R1.1; omega
                    clear B9 c0 c2 c4 c8 c14 c16 c18 hb
                    go_wp2_with fail
                    refine wp_region_noPanic ?_
                    refine wp_region_held_drew (S := (fun w' => w'.cell? ⟨w1.heap.size, 0, none⟩ = some (.int .u16 v0) ∧ w'.cell? ⟨w1.heap.size, 1, none⟩ = some (.int .u16 v1) ∧ w'.cell? ⟨w1.heap.size, 2, none⟩ = some (.int .u32 v2) ∧ w'.cell? ⟨w1.heap.size, 3, none⟩ = some (.int .u32 v3) ∧ w'.cell? ⟨w1.heap.size, 4, none⟩ = some (.int .u8 v4) ∧ w'.cell? ⟨w1.heap.size, 5, none⟩ = some (.int .u8 v5) ∧ w'.cell? ⟨w1.heap.size, 6, none⟩ = some (.int .u16 v6) ∧ w'.cell? ⟨w1.heap.size, 7, none⟩ = some (.int .u16 v7) ∧ w'.cell? ⟨w1.heap.size, 8, none⟩ = some (.int .u16 v8) ∧ w'.cell? ⟨w1.heap.size, 9, none⟩ = some (.string (s.extract 20 n)))) (by kernel_rfl) ?_ (fun hHeld => ?_)
                    · simp [x0, x1, x2, x3, x4, x5, x6, x7, x8, x9]
                    refine wpAnyH_take (i := 0) (oi := _) (v := ?_) rfl (by kernel_rfl) (by kernel_rfl) (by kernel_rfl) (fun _ _ _ h => h) (Or.inl ⟨by rfl, ?_⟩) (by assumption) ?_
                    rotate_left
                    · intro w hSw
                      obtain ⟨g0, g1, g2, g3, g4, g5, g6, g7, g8, g9⟩ := hSw
                      go_simp
                      with_reducible rfl
                    try simp only [List.getElem_toArray, List.getElem_cons_succ, List.getElem_cons_zero, Act.put, List.setIfInBounds_toArray, List.set_cons_zero, List.set_cons_succ]
                    refine wpAnyH_take (i := 1) (oi := _) (v := ?_) rfl (by kernel_rfl) (by kernel_rfl) (by kernel_rfl) (fun _ _ _ h => h) (Or.inl ⟨by rfl, ?_⟩) (by assumption) ?_
                    rotate_left
                    · intro w hSw
                      obtain ⟨g0, g1, g2, g3, g4, g5, g6, g7, g8, g9⟩ := hSw
                      go_simp
                      with_reducible rfl
                    try simp only [List.getElem_toArray, List.getElem_cons_succ, List.getElem_cons_zero, Act.put, List.setIfInBounds_toArray, List.set_cons_zero, List.set_cons_succ]
                    refine wpAnyH_take (i := 2) (oi := _) (v := ?_) rfl (by kernel_rfl) (by kernel_rfl) (by kernel_rfl) (fun _ _ _ h => h) (Or.inl ⟨by rfl, ?_⟩) (by assumption) ?_
                    rotate_left
                    · intro w hSw
                      obtain ⟨g0, g1, g2, g3, g4, g5, g6, g7, g8, g9⟩ := hSw
                      go_simp
                      with_reducible rfl
                    try simp only [List.getElem_toArray, List.getElem_cons_succ, List.getElem_cons_zero, Act.put, List.setIfInBounds_toArray, List.set_cons_zero, List.set_cons_succ]
                    refine wpAnyH_take (i := 3) (oi := _) (v := ?_) rfl (by kernel_rfl) (by kernel_rfl) (by kernel_rfl) (fun _ _ _ h => h) (Or.inl ⟨by rfl, ?_⟩) (by assumption) ?_
                    rotate_left
                    · intro w hSw
                      obtain ⟨g0, g1, g2, g3, g4, g5, g6, g7, g8, g9⟩ := hSw
                      go_simp
                      with_reducible rfl
                    try simp only [List.getElem_toArray, List.getElem_cons_succ, List.getElem_cons_zero, Act.put, List.setIfInBounds_toArray, List.set_cons_zero, List.set_cons_succ]
                    obtain ⟨_, r0, r1, r2, r3, r4, r5, r6, r7, r8, r9⟩ := id R9
                    refine wpAnyH_ready (rs := [4]) (by kernel_rfl) (by simp) ?_
                    refine AllReadyH.cons (o := _) rfl (fun K hK => ?_) AllReadyH.nil
                    go_simp
                    refine box10d_ (b := w.heap.size) R9.some B (Nat.le_refl _) fun wz y0 y1 y2 y3 y4 y5 y6 y7 y8 y9 BZ far => ?_
                    have hS2 : wz.cell? ⟨w1.heap.size, 0, none⟩ = some (.int .u16 v0) ∧ wz.cell? ⟨w1.heap.size, 1, none⟩ = some (.int .u16 v1) ∧ wz.cell? ⟨w1.heap.size, 2, none⟩ = some (.int .u32 v2) ∧ wz.cell? ⟨w1.heap.size, 3, none⟩ = some (.int .u32 v3) ∧ wz.cell? ⟨w1.heap.size, 4, none⟩ = some (.int .u8 v4) ∧ wz.cell? ⟨w1.heap.size, 5, none⟩ = some (.int .u8 v5) ∧ wz.cell? ⟨w1.heap.size, 6, none⟩ = some (.int .u16 v6) ∧ wz.cell? ⟨w1.heap.size, 7, none⟩ = some (.int .u16 v7) ∧ wz.cell? ⟨w1.heap.size, 8, none⟩ = some (.int .u16 v8) ∧ wz.cell? ⟨w1.heap.size, 9, none⟩ = some (.string (s.extract 20 n)) :=
                      ⟨(far _ hne).trans x0, (far _ hne).trans x1, (far _ hne).trans x2, (far _ hne).trans x3, (far _ hne).trans x4, (far _ hne).trans x5, (far _ hne).trans x6, (far _ hne).trans x7, (far _ hne).trans x8, (far _ hne).trans x9⟩
                    refine hK.out _ _ hS2 (fun hHeld2 => ?_)
                    clear hK K hHeld hHeld2 far fz9 x0 x1 x2 x3 x4 x5 x6 x7 x8 x9 r0 r1 r2 r3 r4 r5 r6 r7 r8 r9 R9 B
                    try simp only [List.getElem_toArray, List.getElem_cons_succ, List.getElem_cons_zero, Act.put, List.setIfInBounds_toArray, List.set_cons_zero, List.set_cons_succ]
                    refine wpAnyH_ready (rs := [5]) (by kernel_rfl) (by simp) ?_
                    refine AllReadyH.cons (o := _) rfl (fun K hK => ?_) AllReadyH.nil
                    go_simp
                    refine hK.out _ _ hS2 (fun _ => ?_)
                    clear hK K
                    try simp only [List.getElem_toArray, List.getElem_cons_succ, List.getElem_cons_zero, Act.put, List.setIfInBounds_toArray, List.set_cons_zero, List.set_cons_succ]
                    refine wpAnyH_ready (rs := [6]) (by kernel_rfl) (by simp) ?_
                    refine AllReadyH.cons (o := _) rfl (fun K hK => ?_) AllReadyH.nil
                    go_simp
                    refine hK.out _ _ hS2 (fun _ => ?_)
                    clear hK K
                    try simp only [List.getElem_toArray, List.getElem_cons_succ, List.getElem_cons_zero, Act.put, List.setIfInBounds_toArray, List.set_cons_zero, List.set_cons_succ]
                    refine wpAnyH_done (by kernel_rfl) (NoPanic.normal ?_) _
                    clear hS2
                    go_wp2
                    refine bodyPost_ret (v := .tuple #[.agg #[.int .u16 v0, .int .u16 v1, .int .u32 v2, .int .u32 v3, .int .u8 v4, .int .u8 v5, .int .u16 v6, .int .u16 v7, .int .u16 v8, .string (s.extract 20 n)], .string (s.extract n s.size), .bool true]) (by simp [results, Try.results10, go_sem, y0, y1, y2, y3, y4, y5, y6, y7, y8, y9]) rfl ?_
                    exact ⟨rfl, BZ⟩
                  exact AllReadyH.nil
                exact AllReadyH.nil
              exact AllReadyH.nil
            exact AllReadyH.nil
          exact AllReadyH.nil
        exact AllReadyH.nil
      refine AllReadyH.cons (o := _) rfl (fun K hK => ?_) ?_
      · go_simp
        refine hK.out _ _ trivial (fun _ => ?_)
        clear hK K
        try simp only [List.getElem_toArray, List.getElem_cons_succ, List.getElem_cons_zero, Act.put, List.setIfInBounds_toArray, List.set_cons_zero, List.set_cons_succ]
        refine wpAnyH_ready (rs := [5]) (by kernel_rfl) (by simp) ?_
        refine AllReadyH.cons (o := _) rfl (fun K hK => ?_) ?_
        · go_simp
          refine (c4 _).mono ?_
          rintro e w5 ⟨rfl, rfl⟩
          show K _ _
          refine hK.out _ _ trivial (fun _ => ?_)
          clear hK K
          try simp only [List.getElem_toArray, List.getElem_cons_succ, List.getElem_cons_zero, Act.put, List.setIfInBounds_toArray, List.set_cons_zero, List.set_cons_succ]
          refine wpAnyH_ready (rs := [7]) (by kernel_rfl) (by simp) ?_
          refine AllReadyH.cons (o := _) rfl (fun K hK => ?_) ?_
          · go_simp
            refine (c8 _).mono ?_
            rintro e w5 ⟨rfl, rfl⟩
            show K _ _
            refine hK.out _ _ trivial (fun _ => ?_)
            clear hK K
            try simp only [List.getElem_toArray, List.getElem_cons_succ, List.getElem_cons_zero, Act.put, List.setIfInBounds_toArray, List.set_cons_zero, List.set_cons_succ]
            refine wpAnyH_ready (rs := [14]) (by kernel_rfl) (by simp) ?_
            refine AllReadyH.cons (o := _) rfl (fun K hK => ?_) ?_
            · go_simp
              refine (c14 _).mono ?_
              rintro e w5 ⟨rfl, rfl⟩
              show K _ _
              refine hK.out _ _ trivial (fun _ => ?_)
              clear hK K
              try simp only [List.getElem_toArray, List.getElem_cons_succ, List.getElem_cons_zero, Act.put, List.setIfInBounds_toArray, List.set_cons_zero, List.set_cons_succ]
              refine wpAnyH_ready (rs := [16]) (by kernel_rfl) (by simp) ?_
              refine AllReadyH.cons (o := _) rfl (fun K hK => ?_) ?_
              · go_simp
                refine (c16 _).mono ?_
                rintro e w5 ⟨rfl, rfl⟩
                show K _ _
                refine hK.out _ _ trivial (fun _ => ?_)
                clear hK K
                try simp only [List.getElem_toArray, List.getElem_cons_succ, List.getElem_cons_zero, Act.put, List.setIfInBounds_toArray, List.set_cons_zero, List.set_cons_succ]
                refine wpAnyH_ready (rs := [18]) (by kernel_rfl) (by simp) ?_
                refine AllReadyH.cons (o := _) rfl (fun K hK => ?_) ?_
                · go_simp
                  refine (c18 _).mono ?_
                  rintro e w5 ⟨rfl, rfl⟩
                  show K _ _
                  refine hK.out _ _ trivial (fun _ => ?_)
                  clear hK K
                  try simp only [List.getElem_toArray, List.getElem_cons_succ, List.getElem_cons_zero, Act.put, List.setIfInBounds_toArray, List.set_cons_zero, List.set_cons_succ]
                  refine wpAnyH_take (i := 22) (oi := _) (v := ?_) rfl (by kernel_rfl) (by kernel_rfl) (by kernel_rfl) (fun _ _ _ h => h) (Or.inl ⟨by rfl, ?_⟩) (by assumption) ?_
                  rotate_left
                  · intro w hSw
                    go_simp
                    with_reducible rfl
                  try simp only [List.getElem_toArray, List.getElem_cons_succ, List.getElem_cons_zero, Act.put, List.setIfInBounds_toArray, List.set_cons_zero, List.set_cons_succ]
                  refine wpAnyH_ready (rs := [24]) (by kernel_rfl) (by simp) ?_
                  refine AllReadyH.cons (o := _) rfl (fun K hK => ?_) ?_
                  · go_simp
                    refine hK.out _ _ trivial (fun _ => ?_)
                    clear hK K
                    try simp only [List.getElem_toArray, List.getElem_cons_succ, List.getElem_cons_zero, Act.put, List.setIfInBounds_toArray, List.set_cons_zero, List.set_cons_succ]
                    refine wpAnyH_done (by kernel_rfl) (NoPanic.normal ?_) _
                    refine new10_ fun w9 x0 x1 x2 x3 x4 x5 x6 x7 x8 x9 B9 s9 => ?_
                    have R9 := R1.on B9
                    have B := B1.trans (B9.mono B1.size)
                    have fz9 : ∀ j, w9.frozen? ⟨w.heap.size, j, none⟩ = false := fun j => (B9.frozen (p := ⟨_, j, none⟩) R1.1).trans (fz1 j)
                    have hne : ¬ w.heap.size = w1.heap.size := by have := R1.1; omega
                    clear B9 c0 c2 c4 c8 c14 c16 c18 hb
                    go_wp2_with fail
                    refine wp_region_noPanic ?_
                    refine wp_region_held_drew (S := (fun w' => w'.cell? ⟨w1.heap.size, 0, none⟩ = some (.int .u16 v0) ∧ w'.cell? ⟨w1.heap.size, 1, none⟩ = some (.int .u16 v1) ∧ w'.cell? ⟨w1.heap.size, 2, none⟩ = some (.int .u32 v2) ∧ w'.cell? ⟨w1.heap.size, 3, none⟩ = some (.int .u32 v3) ∧ w'.cell? ⟨w1.heap.size, 4, none⟩ = some (.int .u8 v4) ∧ w'.cell? ⟨w1.heap.size, 5, none⟩ = some (.int .u8 v5) ∧ w'.cell? ⟨w1.heap.size, 6, none⟩ = some (.int .u16 v6) ∧ w'.cell? ⟨w1.heap.size, 7, none⟩ = some (.int .u16 v7) ∧ w'.cell? ⟨w1.heap.size, 8, none⟩ = some (.int .u16 v8) ∧ w'.cell? ⟨w1.heap.size, 9, none⟩ = some (.string (s.extract 20 n)))) (by kernel_rfl) ?_ (fun hHeld => ?_)
                    · simp [x0, x1, x2, x3, x4, x5, x6, x7, x8, x9]
                    refine wpAnyH_take (i := 0) (oi := _) (v := ?_) rfl (by kernel_rfl) (by kernel_rfl) (by kernel_rfl) (fun _ _ _ h => h) (Or.inl ⟨by rfl, ?_⟩) (by assumption) ?_
                    rotate_left
                    · intro w hSw
                      obtain ⟨g0, g1, g2, g3, g4, g5, g6, g7, g8, g9⟩ := hSw
                      go_simp
                      with_reducible rfl
                    try simp only [List.getElem_toArray, List.getElem_cons_succ, List.getElem_cons_zero, Act.put, List.setIfInBounds_toArray, List.set_cons_zero, List.set_cons_succ]
                    refine wpAnyH_take (i := 1) (oi := _) (v := ?_) rfl (by kernel_rfl) (by kernel_rfl) (by kernel_rfl) (fun _ _ _ h => h) (Or.inl ⟨by rfl, ?_⟩) (by assumption) ?_
                    rotate_left
                    · intro w hSw
                      obtain ⟨g0, g1, g2, g3, g4, g5, g6, g7, g8, g9⟩ := hSw
                      go_simp
                      with_reducible rfl
                    try simp only [List.getElem_toArray, List.getElem_cons_succ, List.getElem_cons_zero, Act.put, List.setIfInBounds_toArray, List.set_cons_zero, List.set_cons_succ]
                    refine wpAnyH_take (i := 2) (oi := _) (v := ?_) rfl (by kernel_rfl) (by kernel_rfl) (by kernel_rfl) (fun _ _ _ h => h) (Or.inl ⟨by rfl, ?_⟩) (by assumption) ?_
                    rotate_left
                    · intro w hSw
                      obtain ⟨g0, g1, g2, g3, g4, g5, g6, g7, g8, g9⟩ := hSw
                      go_simp
                      with_reducible rfl
                    try simp only [List.getElem_toArray, List.getElem_cons_succ, List.getElem_cons_zero, Act.put, List.setIfInBounds_toArray, List.set_cons_zero, List.set_cons_succ]
                    refine wpAnyH_take (i := 3) (oi := _) (v := ?_) rfl (by kernel_rfl) (by kernel_rfl) (by kernel_rfl) (fun _ _ _ h => h) (Or.inl ⟨by rfl, ?_⟩) (by assumption) ?_
                    rotate_left
                    · intro w hSw
                      obtain ⟨g0, g1, g2, g3, g4, g5, g6, g7, g8, g9⟩ := hSw
                      go_simp
                      with_reducible rfl
                    try simp only [List.getElem_toArray, List.getElem_cons_succ, List.getElem_cons_zero, Act.put, List.setIfInBounds_toArray, List.set_cons_zero, List.set_cons_succ]
                    obtain ⟨_, r0, r1, r2, r3, r4, r5, r6, r7, r8, r9⟩ := id R9
                    refine wpAnyH_ready (rs := [4]) (by kernel_rfl) (by simp) ?_
                    refine AllReadyH.cons (o := _) rfl (fun K hK => ?_) AllReadyH.nil
                    go_simp
                    refine box10d_ (b := w.heap.size) R9.some B (Nat.le_refl _) fun wz y0 y1 y2 y3 y4 y5 y6 y7 y8 y9 BZ far => ?_
                    have hS2 : wz.cell? ⟨w1.heap.size, 0, none⟩ = some (.int .u16 v0) ∧ wz.cell? ⟨w1.heap.size, 1, none⟩ = some (.int .u16 v1) ∧ wz.cell? ⟨w1.heap.size, 2, none⟩ = some (.int .u32 v2) ∧ wz.cell? ⟨w1.heap.size, 3, none⟩ = some (.int .u32 v3) ∧ wz.cell? ⟨w1.heap.size, 4, none⟩ = some (.int .u8 v4) ∧ wz.cell? ⟨w1.heap.size, 5, none⟩ = some (.int .u8 v5) ∧ wz.cell? ⟨w1.heap.size, 6, none⟩ = some (.int .u16 v6) ∧ wz.cell? ⟨w1.heap.size, 7, none⟩ = some (.int .u16 v7) ∧ wz.cell? ⟨w1.heap.size, 8, none⟩ = some (.int .u16 v8) ∧ wz.cell? ⟨w1.heap.size, 9, none⟩ = some (.string (s.extract 20 n)) :=
                      ⟨(far _ hne).trans x0, (far _ hne).trans x1, (far _ hne).trans x2, (far _ hne).trans x3, (far _ hne).trans x4, (far _ hne).trans x5, (far _ hne).trans x6, (far _ hne).trans x7, (far _ hne).trans x8, (far _ hne).trans x9⟩
                    refine hK.out _ _ hS2 (fun hHeld2 => ?_)
                    clear hK K hHeld hHeld2 far fz9 x0 x1 x2 x3 x4 x5 x6 x7 x8 x9 r0 r1 r2 r3 r4 r5 r6 r7 r8 r9 R9 B
                    try simp only [List.getElem_toArray, List.getElem_cons_succ, List.getElem_cons_zero, Act.put, List.setIfInBounds_toArray, List.set_cons_zero, List.set_cons_succ]
                    refine wpAnyH_ready (rs := [5]) (by kernel_rfl) (by simp) ?_
                    refine AllReadyH.cons (o := _) rfl (fun K hK => ?_) AllReadyH.nil
                    go_simp
                    refine hK.out _ _ hS2 (fun _ => ?_)
                    clear hK K
                    try simp only [List.getElem_toArray, List.getElem_cons_succ, List.getElem_cons_zero, Act.put, List.setIfInBounds_toArray, List.set_cons_zero, List.set_cons_succ]
                    refine wpAnyH_ready (rs := [6]) (by kernel_rfl) (by simp) ?_
                    refine AllReadyH.cons (o := _) rfl (fun K hK => ?_) AllReadyH.nil
                    go_simp
                    refine hK.out _ _ hS2 (fun _ => ?_)
                    clear hK K
                    try simp only [List.getElem_toArray, List.getElem_cons_succ, List.getElem_cons_zero, Act.put, List.setIfInBounds_toArray, List.set_cons_zero, List.set_cons_succ]
                    refine wpAnyH_done (by kernel_rfl) (NoPanic.normal ?_) _
                    clear hS2
                    go_wp2
                    refine bodyPost_ret (v := .tuple #[.agg #[.int .u16 v0, .int .u16 v1, .int .u32 v2, .int .u32 v3, .int .u8 v4, .int .u8 v5, .int .u16 v6, .int .u16 v7, .int .u16 v8, .string (s.extract 20 n)], .string (s.extract n s.size), .bool true]) (by simp [results, Try.results10, go_sem, y0, y1, y2, y3, y4, y5, y6, y7, y8, y9]) rfl ?_
                    exact ⟨rfl, BZ⟩
                  exact AllReadyH.nil
                exact AllReadyH.nil
              exact AllReadyH.nil
            exact AllReadyH.nil
          exact AllReadyH.nil
        exact AllReadyH.nil
      exact AllReadyH.nil
    refine AllReadyH.cons (o := _) rfl (fun K hK => ?_) ?_
    · go_simp
      refine hK.out _ _ trivial (fun _ => ?_)
      clear hK K
      try simp only [List.getElem_toArray, List.getElem_cons_succ, List.getElem_cons_zero, Act.put, List.setIfInBounds_toArray, List.set_cons_zero, List.set_cons_succ]
      refine wpAnyH_ready (rs := [3]) (by kernel_rfl) (by simp) ?_
      refine AllReadyH.cons (o := _) rfl (fun K hK => ?_) ?_
      · go_simp
        refine (c2 _).mono ?_
        rintro e w5 ⟨rfl, rfl⟩
        show K _ _
        refine hK.out _ _ trivial (fun _ => ?_)
        clear hK K
        try simp only [List.getElem_toArray, List.getElem_cons_succ, List.getElem_cons_zero, Act.put, List.setIfInBounds_toArray, List.set_cons_zero, List.set_cons_succ]
        refine wpAnyH_ready (rs := [5]) (by kernel_rfl) (by simp) ?_
        refine AllReadyH.cons (o := _) rfl (fun K hK => ?_) ?_
        · go_simp
          refine (c4 _).mono ?_
          rintro e w5 ⟨rfl, rfl⟩
          show K _ _
          refine hK.out _ _ trivial (fun _ => ?_)
          clear hK K
          try simp only [List.getElem_toArray, List.getElem_cons_succ, List.getElem_cons_zero, Act.put, List.setIfInBounds_toArray, List.set_cons_zero, List.set_cons_succ]
          refine wpAnyH_ready (rs := [7]) (by kernel_rfl) (by simp) ?_
          refine AllReadyH.cons (o := _) rfl (fun K hK => ?_) ?_
          · go_simp
            refine (c8 _).mono ?_
            rintro e w5 ⟨rfl, rfl⟩
            show K _ _
            refine hK.out _ _ trivial (fun _ => ?_)
            clear hK K
            try simp only [List.getElem_toArray, List.getElem_cons_succ, List.getElem_cons_zero, Act.put, List.setIfInBounds_toArray, List.set_cons_zero, List.set_cons_succ]
            refine wpAnyH_ready (rs := [14]) (by kernel_rfl) (by simp) ?_
            refine AllReadyH.cons (o := _) rfl (fun K hK => ?_) ?_
            · go_simp
              refine (c14 _).mono ?_
              rintro e w5 ⟨rfl, rfl⟩
              show K _ _
              refine hK.out _ _ trivial (fun _ => ?_)
              clear hK K
              try simp only [List.getElem_toArray, List.getElem_cons_succ, List.getElem_cons_zero, Act.put, List.setIfInBounds_toArray, List.set_cons_zero, List.set_cons_succ]
              refine wpAnyH_ready (rs := [16]) (by kernel_rfl) (by simp) ?_
              refine AllReadyH.cons (o := _) rfl (fun K hK => ?_) ?_
              · go_simp
                refine (c16 _).mono ?_
                rintro e w5 ⟨rfl, rfl⟩
                show K _ _
                refine hK.out _ _ trivial (fun _ => ?_)
                clear hK K
                try simp only [List.getElem_toArray, List.getElem_cons_succ, List.getElem_cons_zero, Act.put, List.setIfInBounds_toArray, List.set_cons_zero, List.set_cons_succ]
                refine wpAnyH_ready (rs := [18]) (by kernel_rfl) (by simp) ?_
                refine AllReadyH.cons (o := _) rfl (fun K hK => ?_) ?_
                · go_simp
                  refine (c18 _).mono ?_
                  rintro e w5 ⟨rfl, rfl⟩
                  show K _ _
                  refine hK.out _ _ trivial (fun _ => ?_)
                  clear hK K
                  try simp only [List.getElem_toArray, List.getElem_cons_succ, List.getElem_cons_zero, Act.put, List.setIfInBounds_toArray, List.set_cons_zero, List.set_cons_succ]
                  refine wpAnyH_take (i := 22) (oi := _) (v := ?_) rfl (by kernel_rfl) (by kernel_rfl) (by kernel_rfl) (fun _ _ _ h => h) (Or.inl ⟨by rfl, ?_⟩) (by assumption) ?_
                  rotate_left
                  · intro w hSw
                    go_simp
                    with_reducible rfl
                  try simp only [List.getElem_toArray, List.getElem_cons_succ, List.getElem_cons_zero, Act.put, List.setIfInBounds_toArray, List.set_cons_zero, List.set_cons_succ]
                  refine wpAnyH_ready (rs := [24]) (by kernel_rfl) (by simp) ?_
                  refine AllReadyH.cons (o := _) rfl (fun K hK => ?_) ?_
                  · go_simp
                    refine hK.out _ _ trivial (fun _ => ?_)
                    clear hK K
                    try simp only [List.getElem_toArray, List.getElem_cons_succ, List.getElem_cons_zero, Act.put, List.setIfInBounds_toArray, List.set_cons_zero, List.set_cons_succ]
                    refine wpAnyH_done (by kernel_rfl) (NoPanic.normal ?_) _
                    refine new10_ fun w9 x0 x1 x2 x3 x4 x5 x6 x7 x8 x9 B9 s9 => ?_
                    have R9 := R1.on B9
                    have B := B1.trans (B9.mono B1.size)
                    have fz9 : ∀ j, w9.frozen? ⟨w.heap.size, j, none⟩ = false := fun j => (B9.frozen (p := ⟨_, j, none⟩) R1.1).trans (fz1 j)
                    have hne : ¬ w.heap.size = w1.heap.size := by have := R1.1; omega
                    clear B9 c0 c2 c4 c8 c14 c16 c18 hb
                    go_wp2_with fail
                    refine wp_region_noPanic ?_
                    refine wp_region_held_drew (S := (fun w' => w'.cell? ⟨w1.heap.size, 0, none⟩ = some (.int .u16 v0) ∧ w'.cell? ⟨w1.heap.size, 1, none⟩ = some (.int .u16 v1) ∧ w'.cell? ⟨w1.heap.size, 2, none⟩ = some (.int .u32 v2) ∧ w'.cell? ⟨w1.heap.size, 3, none⟩ = some (.int .u32 v3) ∧ w'.cell? ⟨w1.heap.size, 4, none⟩ = some (.int .u8 v4) ∧ w'.cell? ⟨w1.heap.size, 5, none⟩ = some (.int .u8 v5) ∧ w'.cell? ⟨w1.heap.size, 6, none⟩ = some (.int .u16 v6) ∧ w'.cell? ⟨w1.heap.size, 7, none⟩ = some (.int .u16 v7) ∧ w'.cell? ⟨w1.heap.size, 8, none⟩ = some (.int .u16 v8) ∧ w'.cell? ⟨w1.heap.size, 9, none⟩ = some (.string (s.extract 20 n)))) (by kernel_rfl) ?_ (fun hHeld => ?_)
                    · simp [x0, x1, x2, x3, x4, x5, x6, x7, x8, x9]
                    refine wpAnyH_take (i := 0) (oi := _) (v := ?_) rfl (by kernel_rfl) (by kernel_rfl) (by kernel_rfl) (fun _ _ _ h => h) (Or.inl ⟨by rfl, ?_⟩) (by assumption) ?_
                    rotate_left
                    · intro w hSw
                      obtain ⟨g0, g1, g2, g3, g4, g5, g6, g7, g8, g9⟩ := hSw
                      go_simp
                      with_reducible rfl
                    try simp only [List.getElem_toArray, List.getElem_cons_succ, List.getElem_cons_zero, Act.put, List.setIfInBounds_toArray, List.set_cons_zero, List.set_cons_succ]
                    refine wpAnyH_take (i := 1) (oi := _) (v := ?_) rfl (by kernel_rfl) (by kernel_rfl) (by kernel_rfl) (fun _ _ _ h => h) (Or.inl ⟨by rfl, ?_⟩) (by assumption) ?_
                    rotate_left
                    · intro w hSw
                      obtain ⟨g0, g1, g2, g3, g4, g5, g6, g7, g8, g9⟩ := hSw
                      go_simp
                      with_reducible rfl
                    try simp only [List.getElem_toArray, List.getElem_cons_succ, List.getElem_cons_zero, Act.put, List.setIfInBounds_toArray, List.set_cons_zero, List.set_cons_succ]
                    refine wpAnyH_take (i := 2) (oi := _) (v := ?_) rfl (by kernel_rfl) (by kernel_rfl) (by kernel_rfl) (fun _ _ _ h => h) (Or.inl ⟨by rfl, ?_⟩) (by assumption) ?_
                    rotate_left
                    · intro w hSw
                      obtain ⟨g0, g1, g2, g3, g4, g5, g6, g7, g8, g9⟩ := hSw
                      go_simp
                      with_reducible rfl
                    try simp only [List.getElem_toArray, List.getElem_cons_succ, List.getElem_cons_zero, Act.put, List.setIfInBounds_toArray, List.set_cons_zero, List.set_cons_succ]
                    refine wpAnyH_take (i := 3) (oi := _) (v := ?_) rfl (by kernel_rfl) (by kernel_rfl) (by kernel_rfl) (fun _ _ _ h => h) (Or.inl ⟨by rfl, ?_⟩) (by assumption) ?_
                    rotate_left
                    · intro w hSw
                      obtain ⟨g0, g1, g2, g3, g4, g5, g6, g7, g8, g9⟩ := hSw
                      go_simp
                      with_reducible rfl
                    try simp only [List.getElem_toArray, List.getElem_cons_succ, List.getElem_cons_zero, Act.put, List.setIfInBounds_toArray, List.set_cons_zero, List.set_cons_succ]
                    obtain ⟨_, r0, r1, r2, r3, r4, r5, r6, r7, r8, r9⟩ := id R9
                    refine wpAnyH_ready (rs := [4]) (by kernel_rfl) (by simp) ?_
                    refine AllReadyH.cons (o := _) rfl (fun K hK => ?_) AllReadyH.nil
                    go_simp
                    refine box10d_ (b := w.heap.size) R9.some B (Nat.le_refl _) fun wz y0 y1 y2 y3 y4 y5 y6 y7 y8 y9 BZ far => ?_
                    have hS2 : wz.cell? ⟨w1.heap.size, 0, none⟩ = some (.int .u16 v0) ∧ wz.cell? ⟨w1.heap.size, 1, none⟩ = some (.int .u16 v1) ∧ wz.cell? ⟨w1.heap.size, 2, none⟩ = some (.int .u32 v2) ∧ wz.cell? ⟨w1.heap.size, 3, none⟩ = some (.int .u32 v3) ∧ wz.cell? ⟨w1.heap.size, 4, none⟩ = some (.int .u8 v4) ∧ wz.cell? ⟨w1.heap.size, 5, none⟩ = some (.int .u8 v5) ∧ wz.cell? ⟨w1.heap.size, 6, none⟩ = some (.int .u16 v6) ∧ wz.cell? ⟨w1.heap.size, 7, none⟩ = some (.int .u16 v7) ∧ wz.cell? ⟨w1.heap.size, 8, none⟩ = some (.int .u16 v8) ∧ wz.cell? ⟨w1.heap.size, 9, none⟩ = some (.string (s.extract 20 n)) :=
                      ⟨(far _ hne).trans x0, (far _ hne).trans x1, (far _ hne).trans x2, (far _ hne).trans x3, (far _ hne).trans x4, (far _ hne).trans x5, (far _ hne).trans x6, (far _ hne).trans x7, (far _ hne).trans x8, (far _ hne).trans x9⟩
                    refine hK.out _ _ hS2 (fun hHeld2 => ?_)
                    clear hK K hHeld hHeld2 far fz9 x0 x1 x2 x3 x4 x5 x6 x7 x8 x9 r0 r1 r2 r3 r4 r5 r6 r7 r8 r9 R9 B
                    try simp only [List.getElem_toArray, List.getElem_cons_succ, List.getElem_cons_zero, Act.put, List.setIfInBounds_toArray, List.set_cons_zero, List.set_cons_succ]
                    refine wpAnyH_ready (rs := [5]) (by kernel_rfl) (by simp) ?_
                    refine AllReadyH.cons (o := _) rfl (fun K hK => ?_) AllReadyH.nil
                    go_simp
                    refine hK.out _ _ hS2 (fun _ => ?_)
                    clear hK K
                    try simp only [List.getElem_toArray, List.getElem_cons_succ, List.getElem_cons_zero, Act.put, List.setIfInBounds_toArray, List.set_cons_zero, List.set_cons_succ]
                    refine wpAnyH_ready (rs := [6]) (by kernel_rfl) (by simp) ?_
                    refine AllReadyH.cons (o := _) rfl (fun K hK => ?_) AllReadyH.nil
                    go_simp
                    refine hK.out _ _ hS2 (fun _ => ?_)
                    clear hK K
                    try simp only [List.getElem_toArray, List.getElem_cons_succ, List.getElem_cons_zero, Act.put, List.setIfInBounds_toArray, List.set_cons_zero, List.set_cons_succ]
                    refine wpAnyH_done (by kernel_rfl) (NoPanic.normal ?_) _
                    clear hS2
                    go_wp2
                    refine bodyPost_ret (v := .tuple #[.agg #[.int .u16 v0, .int .u16 v1, .int .u32 v2, .int .u32 v3, .int .u8 v4, .int .u8 v5, .int .u16 v6, .int .u16 v7, .int .u16 v8, .string (s.extract 20 n)], .string (s.extract n s.size), .bool true]) (by simp [results, Try.results10, go_sem, y0, y1, y2, y3, y4, y5, y6, y7, y8, y9]) rfl ?_
                    exact ⟨rfl, BZ⟩
                  exact AllReadyH.nil
                exact AllReadyH.nil
              exact AllReadyH.nil
            exact AllReadyH.nil
          exact AllReadyH.nil
        exact AllReadyH.nil
      exact AllReadyH.nil
    exact AllReadyH.nil
  refine AllReadyH.cons (o := _) rfl (fun K hK => ?_) ?_
  · go_simp
    refine hK.out _ _ trivial (fun _ => ?_)
    clear hK K
    try simp only [List.getElem_toArray, List.getElem_cons_succ, List.getElem_cons_zero, Act.put, List.setIfInBounds_toArray, List.set_cons_zero, List.set_cons_succ]
    refine wpAnyH_ready (rs := [1]) (by kernel_rfl) (by simp) ?_
    refine AllReadyH.cons (o := _) rfl (fun K hK => ?_) ?_
    · go_simp
      refine (c0 _).mono ?_
      rintro e w5 ⟨rfl, rfl⟩
      show K _ _
      refine hK.out _ _ trivial (fun _ => ?_)
      clear hK K
      try simp only [List.getElem_toArray, List.getElem_cons_succ, List.getElem_cons_zero, Act.put, List.setIfInBounds_toArray, List.set_cons_zero, List.set_cons_succ]
      refine wpAnyH_ready (rs := [3]) (by kernel_rfl) (by simp) ?_
      refine AllReadyH.cons (o := _) rfl (fun K hK => ?_) ?_
      · go_simp
        refine (c2 _).mono ?_
        rintro e w5 ⟨rfl, rfl⟩
        show K _ _
        refine hK.out _ _ trivial (fun _ => ?_)
        clear hK K
        try simp only [List.getElem_toArray, List.getElem_cons_succ, List.getElem_cons_zero, Act.put, List.setIfInBounds_toArray, List.set_cons_zero, List.set_cons_succ]
        refine wpAnyH_ready (rs := [5]) (by kernel_rfl) (by simp) ?_
        refine AllReadyH.cons (o := _) rfl (fun K hK => ?_) ?_
        · go_simp
          refine (c4 _).mono ?_
          rintro e w5 ⟨rfl, rfl⟩
          show K _ _
          refine hK.out _ _ trivial (fun _ => ?_)
          clear hK K
          try simp only [List.getElem_toArray, List.getElem_cons_succ, List.getElem_cons_zero, Act.put, List.setIfInBounds_toArray, List.set_cons_zero, List.set_cons_succ]
          refine wpAnyH_ready (rs := [7]) (by kernel_rfl) (by simp) ?_
          refine AllReadyH.cons (o := _) rfl (fun K hK => ?_) ?_
          · go_simp
            refine (c8 _).mono ?_
            rintro e w5 ⟨rfl, rfl⟩
            show K _ _
            refine hK.out _ _ trivial (fun _ => ?_)
            clear hK K
            try simp only [List.getElem_toArray, List.getElem_cons_succ, List.getElem_cons_zero, Act.put, List.setIfInBounds_toArray, List.set_cons_zero, List.set_cons_succ]
            refine wpAnyH_ready (rs := [14]) (by kernel_rfl) (by simp) ?_
            refine AllReadyH.cons (o := _) rfl (fun K hK => ?_) ?_
            · go_simp
              refine (c14 _).mono ?_
              rintro e w5 ⟨rfl, rfl⟩
              show K _ _
              refine hK.out _ _ trivial (fun _ => ?_)
              clear hK K
              try simp only [List.getElem_toArray, List.getElem_cons_succ, List.getElem_cons_zero, Act.put, List.setIfInBounds_toArray, List.set_cons_zero, List.set_cons_succ]
              refine wpAnyH_ready (rs := [16]) (by kernel_rfl) (by simp) ?_
              refine AllReadyH.cons (o := _) rfl (fun K hK => ?_) ?_
              · go_simp
                refine (c16 _).mono ?_
                rintro e w5 ⟨rfl, rfl⟩
                show K _ _
                refine hK.out _ _ trivial (fun _ => ?_)
                clear hK K
                try simp only [List.getElem_toArray, List.getElem_cons_succ, List.getElem_cons_zero, Act.put, List.setIfInBounds_toArray, List.set_cons_zero, List.set_cons_succ]
                refine wpAnyH_ready (rs := [18]) (by kernel_rfl) (by simp) ?_
                refine AllReadyH.cons (o := _) rfl (fun K hK => ?_) ?_
                · go_simp
                  refine (c18 _).mono ?_
                  rintro e w5 ⟨rfl, rfl⟩
                  show K _ _
                  refine hK.out _ _ trivial (fun _ => ?_)
                  clear hK K
                  try simp only [List.getElem_toArray, List.getElem_cons_succ, List.getElem_cons_zero, Act.put, List.setIfInBounds_toArray, List.set_cons_zero, List.set_cons_succ]
                  refine wpAnyH_take (i := 22) (oi := _) (v := ?_) rfl (by kernel_rfl) (by kernel_rfl) (by kernel_rfl) (fun _ _ _ h => h) (Or.inl ⟨by rfl, ?_⟩) (by assumption) ?_
                  rotate_left
                  · intro w hSw
                    go_simp
                    with_reducible rfl
                  try simp only [List.getElem_toArray, List.getElem_cons_succ, List.getElem_cons_zero, Act.put, List.setIfInBounds_toArray, List.set_cons_zero, List.set_cons_succ]
                  refine wpAnyH_ready (rs := [24]) (by kernel_rfl) (by simp) ?_
                  refine AllReadyH.cons (o := _) rfl (fun K hK => ?_) ?_
                  · go_simp
                    refine hK.out _ _ trivial (fun _ => ?_)
                    clear hK K
                    try simp only [List.getElem_toArray, List.getElem_cons_succ, List.getElem_cons_zero, Act.put, List.setIfInBounds_toArray, List.set_cons_zero, List.set_cons_succ]
                    refine wpAnyH_done (by kernel_rfl) (NoPanic.normal ?_) _
                    refine new10_ fun w9 x0 x1 x2 x3 x4 x5 x6 x7 x8 x9 B9 s9 => ?_
                    have R9 := R1.on B9
                    have B := B1.trans (B9.mono B1.size)
                    have fz9 : ∀ j, w9.frozen? ⟨w.heap.size, j, none⟩ = false := fun j => (B9.frozen (p := ⟨_, j, none⟩) R1.1).trans (fz1 j)
                    have hne : ¬ w.heap.size = w1.heap.size := by have := R1.1; omega
                    clear B9 c0 c2 c4 c8 c14 c16 c18 hb
                    go_wp2_with fail
                    refine wp_region_noPanic ?_
                    refine wp_region_held_drew (S := (fun w' => w'.cell? ⟨w1.heap.size, 0, none⟩ = some (.int .u16 v0) ∧ w'.cell? ⟨w1.heap.size, 1, none⟩ = some (.int .u16 v1) ∧ w'.cell? ⟨w1.heap.size, 2, none⟩ = some (.int .u32 v2) ∧ w'.cell? ⟨w1.heap.size, 3, none⟩ = some (.int .u32 v3) ∧ w'.cell? ⟨w1.heap.size, 4, none⟩ = some (.int .u8 v4) ∧ w'.cell? ⟨w1.heap.size, 5, none⟩ = some (.int .u8 v5) ∧ w'.cell? ⟨w1.heap.size, 6, none⟩ = some (.int .u16 v6) ∧ w'.cell? ⟨w1.heap.size, 7, none⟩ = some (.int .u16 v7) ∧ w'.cell? ⟨w1.heap.size, 8, none⟩ = some (.int .u16 v8) ∧ w'.cell? ⟨w1.heap.size, 9, none⟩ = some (.string (s.extract 20 n)))) (by kernel_rfl) ?_ (fun hHeld => ?_)
                    · simp [x0, x1, x2, x3, x4, x5, x6, x7, x8, x9]
                    refine wpAnyH_take (i := 0) (oi := _) (v := ?_) rfl (by kernel_rfl) (by kernel_rfl) (by kernel_rfl) (fun _ _ _ h => h) (Or.inl ⟨by rfl, ?_⟩) (by assumption) ?_
                    rotate_left
                    · intro w hSw
                      obtain ⟨g0, g1, g2, g3, g4, g5, g6, g7, g8, g9⟩ := hSw
                      go_simp
                      with_reducible rfl
                    try simp only [List.getElem_toArray, List.getElem_cons_succ, List.getElem_cons_zero, Act.put, List.setIfInBounds_toArray, List.set_cons_zero, List.set_cons_succ]
                    refine wpAnyH_take (i := 1) (oi := _) (v := ?_) rfl (by kernel_rfl) (by kernel_rfl) (by kernel_rfl) (fun _ _ _ h => h) (Or.inl ⟨by rfl, ?_⟩) (by assumption) ?_
                    rotate_left
                    · intro w hSw
                      obtain ⟨g0, g1, g2, g3, g4, g5, g6, g7, g8, g9⟩ := hSw
                      go_simp
                      with_reducible rfl
                    try simp only [List.getElem_toArray, List.getElem_cons_succ, List.getElem_cons_zero, Act.put, List.setIfInBounds_toArray, List.set_cons_zero, List.set_cons_succ]
                    refine wpAnyH_take (i := 2) (oi := _) (v := ?_) rfl (by kernel_rfl) (by kernel_rfl) (by kernel_rfl) (fun _ _ _ h => h) (Or.inl ⟨by rfl, ?_⟩) (by assumption) ?_
                    rotate_left
                    · intro w hSw
                      obtain ⟨g0, g1, g2, g3, g4, g5, g6, g7, g8, g9⟩ := hSw
                      go_simp
                      with_reducible rfl
                    try simp only [List.getElem_toArray, List.getElem_cons_succ, List.getElem_cons_zero, Act.put, List.setIfInBounds_toArray, List.set_cons_zero, List.set_cons_succ]
                    refine wpAnyH_take (i := 3) (oi := _) (v := ?_) rfl (by kernel_rfl) (by kernel_rfl) (by kernel_rfl) (fun _ _ _ h => h) (Or.inl ⟨by rfl, ?_⟩) (by assumption) ?_
                    rotate_left
                    · intro w hSw
                      obtain ⟨g0, g1, g2, g3, g4, g5, g6, g7, g8, g9⟩ := hSw
                      go_simp
                      with_reducible rfl
                    try simp only [List.getElem_toArray, List.getElem_cons_succ, List.getElem_cons_zero, Act.put, List.setIfInBounds_toArray, List.set_cons_zero, List.set_cons_succ]
                    obtain ⟨_, r0, r1, r2, r3, r4, r5, r6, r7, r8, r9⟩ := id R9
                    refine wpAnyH_ready (rs := [4]) (by kernel_rfl) (by simp) ?_
                    refine AllReadyH.cons (o := _) rfl (fun K hK => ?_) AllReadyH.nil
                    go_simp
                    refine box10d_ (b := w.heap.size) R9.some B (Nat.le_refl _) fun wz y0 y1 y2 y3 y4 y5 y6 y7 y8 y9 BZ far => ?_
                    have hS2 : wz.cell? ⟨w1.heap.size, 0, none⟩ = some (.int .u16 v0) ∧ wz.cell? ⟨w1.heap.size, 1, none⟩ = some (.int .u16 v1) ∧ wz.cell? ⟨w1.heap.size, 2, none⟩ = some (.int .u32 v2) ∧ wz.cell? ⟨w1.heap.size, 3, none⟩ = some (.int .u32 v3) ∧ wz.cell? ⟨w1.heap.size, 4, none⟩ = some (.int .u8 v4) ∧ wz.cell? ⟨w1.heap.size, 5, none⟩ = some (.int .u8 v5) ∧ wz.cell? ⟨w1.heap.size, 6, none⟩ = some (.int .u16 v6) ∧ wz.cell? ⟨w1.heap.size, 7, none⟩ = some (.int .u16 v7) ∧ wz.cell? ⟨w1.heap.size, 8, none⟩ = some (.int .u16 v8) ∧ wz.cell? ⟨w1.heap.size, 9, none⟩ = some (.string (s.extract 20 n)) :=
                      ⟨(far _ hne).trans x0, (far _ hne).trans x1, (far _ hne).trans x2, (far _ hne).trans x3, (far _ hne).trans x4, (far _ hne).trans x5, (far _ hne).trans x6, (far _ hne).trans x7, (far _ hne).trans x8, (far _ hne).trans x9⟩
                    refine hK.out _ _ hS2 (fun hHeld2 => ?_)
                    clear hK K hHeld hHeld2 far fz9 x0 x1 x2 x3 x4 x5 x6 x7 x8 x9 r0 r1 r2 r3 r4 r5 r6 r7 r8 r9 R9 B
                    try simp only [List.getElem_toArray, List.getElem_cons_succ, List.getElem_cons_zero, Act.put, List.setIfInBounds_toArray, List.set_cons_zero, List.set_cons_succ]
                    refine wpAnyH_ready (rs := [5]) (by kernel_rfl) (by simp) ?_
                    refine AllReadyH.cons (o := _) rfl (fun K hK => ?_) AllReadyH.nil
                    go_simp
                    refine hK.out _ _ hS2 (fun _ => ?_)
                    clear hK K
                    try simp only [List.getElem_toArray, List.getElem_cons_succ, List.getElem_cons_zero, Act.put, List.setIfInBounds_toArray, List.set_cons_zero, List.set_cons_succ]
                    refine wpAnyH_ready (rs := [6]) (by kernel_rfl) (by simp) ?_
                    refine AllReadyH.cons (o := _) rfl (fun K hK => ?_) AllReadyH.nil
                    go_simp
                    refine hK.out _ _ hS2 (fun _ => ?_)
                    clear hK K
                    try simp only [List.getElem_toArray, List.getElem_cons_succ, List.getElem_cons_zero, Act.put, List.setIfInBounds_toArray, List.set_cons_zero, List.set_cons_succ]
                    refine wpAnyH_done (by kernel_rfl) (NoPanic.normal ?_) _
                    clear hS2
                    go_wp2
                    refine bodyPost_ret (v := .tuple #[.agg #[.int .u16 v0, .int .u16 v1, .int .u32 v2, .int .u32 v3, .int .u8 v4, .int .u8 v5, .int .u16 v6, .int .u16 v7, .int .u16 v8, .string (s.extract 20 n)], .string (s.extract n s.size), .bool true]) (by simp [results, Try.results10, go_sem, y0, y1, y2, y3, y4, y5, y6, y7, y8, y9]) rfl ?_
                    exact ⟨rfl, BZ⟩
                  exact AllReadyH.nil
                exact AllReadyH.nil
              exact AllReadyH.nil
            exact AllReadyH.nil
          exact AllReadyH.nil
        exact AllReadyH.nil
      exact AllReadyH.nil
    exact AllReadyH.nil
  exact AllReadyH.nil
end Go.Proofs.Ytckcdmijhemchaa
