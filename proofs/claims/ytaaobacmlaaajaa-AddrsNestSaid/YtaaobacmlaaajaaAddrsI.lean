/- Contracts: prefixes read, by the program and by the document. -/
import Derived.Test.YtaaobacmlaaajaaAddrsH
namespace Go.Proofs.Ytaaobacmlaaajaa
set_option linter.unusedVariables false
set_option linter.unusedSimpArgs false
open Go.ChangeShapes Go.WideShapes Go.ChangeAt Go.RowKit Go.PlainAid
/-- What a text is read as: the address, the bits, the error. -/
def prefR (l : List UInt8) : Nat × Nat × Int :=
  match prefV l with
  | none => (0, 0, 3)
  | some (a, n) => if mayV a (n : Int) then (a, n, 0) else (0, 0, 2)
theorem prefR_none {l : List UInt8} (h : prefV l = none) : prefR l = (0, 0, 3) := by unfold prefR; rw [h]
theorem prefR_no {l : List UInt8} {a n : Nat} (h : prefV l = some (a, n)) (hm : mayV a (n : Int) = false) : prefR l = (0, 0, 2) := by unfold prefR; rw [h]; simp [hm]
theorem prefR_yes {l : List UInt8} {a n : Nat} (h : prefV l = some (a, n)) (hm : mayV a (n : Int) = true) : prefR l = (a, n, 0) := by unfold prefR; rw [h]; simp [hm]
set_option maxHeartbeats 4000000 in
set_option maxRecDepth 100000 in
theorem prefix_ (l : List UInt8) (w : World) (hl : l.length ≤ maxLen) :
    Calls Try.prog 8 #[.string (str l)] w fun e w' => e = .returned (.tuple #[.agg #[.int .u32 ((prefR l).1 : Nat), .int .i64 ((prefR l).2.1 : Nat)], .int .i64 (prefR l).2.2]) ∧ Below w.heap.size w w' := by
  have c1 := fun w => pair8_ l 47 w hl
  have hw := prefV_wide l
  rcases pair_cases 255 47 l with ⟨a, n, h0, h1, h2, h3⟩ | ⟨h0, h1, h2, h3⟩
  · rw [h1, h2, h3] at c1
    rw [h0] at hw
    simp only at hw
    have ha : a < 4294967296 := ((pairV_iff 255 47 l a n (by decide) (by decide)).1 h0).1
    have hn255 : n ≤ 255 := ((pairV_iff 255 47 l a n (by decide) (by decide)).1 h0).2.1
    clear h0 h1 h2 h3
    by_cases h32 : n ≤ 32
    · rw [if_pos h32] at hw
      have e1 : decide (32 < n) = false := by simp; omega
      have e1' : decide ((32 : Int) < (n : Int)) = false := by simp; omega
      have e2 : IntKind.i64.wrap (n : Int) = (n : Int) := IntWalk.i64_in _ (by omega)
      have hmay := fun w => may_ a (n : Int) w ha (by omega)
      cases hm : mayV a (n : Int) with
      | true =>
        have HP : Hid (prefR l = (a, n, 0)) := prefR_yes hw hm
        rw [hm] at hmay
        clear hw hm
        go_enter Try.func8, Try.ntmps8
        go_wp2_with fail
        refine (c1 _).mono ?_; rintro e w1 ⟨rfl, b1⟩
        obtain ⟨hc, hf⟩ := bcell_ b1
        have hz : w.heap.size < w1.heap.size := by have := b1.size; simp at this; omega
        go_wp2_with fail
        refine (hmay _).mono ?_; rintro e w2 ⟨rfl, b2⟩
        obtain ⟨hc2, hf2⟩ := bcell_ b2
        have hz2 : w.heap.size < w2.heap.size := by have := b2.size; simp at this; omega
        have k0 : w2.cell? ⟨w.heap.size, 0, none⟩ = some (.int .u32 (a : Int)) := by rw [hc2 _ _ (by simpa using hz)]; simp [go_sem, hc, hz]
        have k1 : w2.cell? ⟨w.heap.size, 1, none⟩ = some (.int .i64 (n : Int)) := by rw [hc2 _ _ (by simpa using hz)]; simp [go_sem, hc, hz]
        clear hc2 hc
        go_wp2
        refine bodyPost_ret (v := .tuple #[.agg #[.int .u32 (a : Nat), .int .i64 (n : Nat)], .int .i64 0]) (by simp [results, Try.results8, go_sem, k0, k1]) rfl ?_
        rw [HP.out]
        exact ⟨rfl, (((((((Below.refl _ _).alloc (Nat.le_refl _) _).trans (b1.mono (by simp))).setCell (by simp) _).setCell (by simp) _).trans (b2.mono (by simp; omega))).setCell (by simp) _).setCell (by simp) _⟩
      | false =>
        have HP : Hid (prefR l = (0, 0, 2)) := prefR_no hw hm
        rw [hm] at hmay
        clear hw hm
        go_enter Try.func8, Try.ntmps8
        go_wp2_with fail
        refine (c1 _).mono ?_; rintro e w1 ⟨rfl, b1⟩
        obtain ⟨hc, hf⟩ := bcell_ b1
        have hz : w.heap.size < w1.heap.size := by have := b1.size; simp at this; omega
        go_wp2_with fail
        refine (hmay _).mono ?_; rintro e w2 ⟨rfl, b2⟩
        obtain ⟨hc2, hf2⟩ := bcell_ b2
        have hz2 : w.heap.size < w2.heap.size := by have := b2.size; simp at this; omega
        have k0 : w2.cell? ⟨w.heap.size, 0, none⟩ = some (.int .u32 (a : Int)) := by rw [hc2 _ _ (by simpa using hz)]; simp [go_sem, hc, hz]
        have k1 : w2.cell? ⟨w.heap.size, 1, none⟩ = some (.int .i64 (n : Int)) := by rw [hc2 _ _ (by simpa using hz)]; simp [go_sem, hc, hz]
        clear hc2 hc
        go_wp2
        refine bodyPost_ret (v := .tuple #[.agg #[.int .u32 0, .int .i64 0], .int .i64 2]) (by simp [results, Try.results8, go_sem, k0, k1]) rfl ?_
        rw [HP.out]
        exact ⟨rfl, (((((((Below.refl _ _).alloc (Nat.le_refl _) _).trans (b1.mono (by simp))).setCell (by simp) _).setCell (by simp) _).trans (b2.mono (by simp; omega))).setCell (by simp) _).setCell (by simp) _⟩
    · rw [if_neg h32] at hw
      have e1 : decide (32 < n) = true := by simp; omega
      have e1' : decide ((32 : Int) < (n : Int)) = true := by simp; omega
      have HP : Hid (prefR l = (0, 0, 3)) := prefR_none hw
      clear hw h32
      go_enter Try.func8, Try.ntmps8
      go_wp2_with fail
      refine (c1 _).mono ?_; rintro e w1 ⟨rfl, b1⟩
      obtain ⟨hc, hf⟩ := bcell_ b1
      have hz : w.heap.size < w1.heap.size := by have := b1.size; simp at this; omega
      go_wp2
      refine bodyPost_ret (v := .tuple #[.agg #[.int .u32 0, .int .i64 0], .int .i64 3]) (by simp [results, Try.results8, go_sem, hc, hz]) rfl ?_
      rw [HP.out]
      exact ⟨rfl, ((((Below.refl _ _).alloc (Nat.le_refl _) _).trans (b1.mono (by simp))).setCell (by simp) _).setCell (by simp) _⟩
  · rw [h1, h2, h3] at c1
    rw [h0] at hw
    have HP : Hid (prefR l = (0, 0, 3)) := prefR_none hw
    clear hw h0 h1 h2 h3
    go_enter Try.func8, Try.ntmps8
    go_wp2_with fail
    refine (c1 _).mono ?_; rintro e w1 ⟨rfl, b1⟩
    obtain ⟨hc, hf⟩ := bcell_ b1
    have hz : w.heap.size < w1.heap.size := by have := b1.size; simp at this; omega
    go_wp2
    refine bodyPost_ret (v := .tuple #[.agg #[.int .u32 0, .int .i64 0], .int .i64 3]) (by simp [results, Try.results8, go_sem, hc, hz]) rfl ?_
    rw [HP.out]
    exact ⟨rfl, ((((Below.refl _ _).alloc (Nat.le_refl _) _).trans (b1.mono (by simp))).setCell (by simp) _).setCell (by simp) _⟩
set_option maxHeartbeats 4000000 in
set_option maxRecDepth 100000 in
theorem rprefix_ (l : List UInt8) (w : World) (hl : l.length ≤ maxLen) :
    Calls Try.prog 9 #[.string (str l)] w fun e w' => e = .returned (.tuple #[.agg #[.int .u32 ((prefR l).1 : Nat), .int .i64 ((prefR l).2.1 : Nat)], .int .i64 (prefR l).2.2]) ∧ Below w.heap.size w w' := by
  obtain ⟨p, q, y, hc⟩ : ∃ p q y, cutZ 47 l = (p, q, y) := ⟨_, _, _, rfl⟩
  have hcl := cutZ_len 47 l
  have c1 := fun w => cutz_ l 47 w hl
  rw [hc] at hcl c1
  simp only at hcl c1
  obtain ⟨hl1, hl2⟩ := hcl
  have HC := Lib.hid hc
  have c2 := fun w => rparse_ p w (by omega)
  have c3 := fun w => number_ 32 (by omega) q w (by omega)
  clear hc
  by_cases hgood : y = true ∧ (parseV p).isSome = true ∧ (numV 32 q).isSome = true
  · obtain ⟨rfl, g1, g2⟩ := hgood
    rcases parse_cases p with ⟨a, h1, h2, h3, h4⟩ | ⟨h1, h2, h3⟩
    rotate_left
    · rw [h1] at g1; cases g1
    rcases num_cases 32 q with ⟨n, k1, k2, k3, k4⟩ | ⟨k1, k2, k3⟩
    rotate_left
    · rw [k1] at g2; cases g2
    rw [h2, h3] at c2
    rw [k2, k3] at c3
    have hw : prefV l = some (a, n) := rpair_yes (by decide) (by decide) HC.out h1 k1
    have e1 : IntKind.i64.wrap (n : Int) = (n : Int) := IntWalk.i64_in _ (by omega)
    have hmay := fun w => rmay_ a (n : Int) w h4 (by omega)
    have hR : (∃ b, mayV a (n : Int) = b ∧ Hid (prefR l = if b then (a, n, 0) else (0, 0, 2))) := by
      cases hm : mayV a (n : Int) with
      | true => exact ⟨true, rfl, prefR_yes hw hm⟩
      | false => exact ⟨false, rfl, prefR_no hw hm⟩
    obtain ⟨b, hm, HR⟩ := hR
    rw [hm] at hmay
    clear h1 h2 h3 k1 k2 k3 g1 g2 hw hm
    cases b with
    | true =>
      have HP : Hid (prefR l = (a, n, 0)) := HR.out
      clear HR
      go_enter Try.func9, Try.ntmps9
      go_wp2_with fail
      refine (c1 _).mono ?_; rintro e w1 ⟨rfl, b1⟩
      go_wp2_with fail
      refine (c2 _).mono ?_; rintro e w2 ⟨rfl, b2⟩
      have B2 := b1.trans (b2.mono b1.size)
      clear b1 b2
      go_wp2_with fail
      refine (c3 _).mono ?_; rintro e w3 ⟨rfl, b3⟩
      have B3 := B2.trans (b3.mono B2.size)
      clear B2 b3
      obtain ⟨hc, hf⟩ := bcell_ B3
      have hz : w.heap.size < w3.heap.size := by have := B3.size; simp at this; omega
      go_wp2_with fail
      refine (hmay _).mono ?_; rintro e w4 ⟨rfl, b4⟩
      obtain ⟨hc4, hf4⟩ := bcell_ b4
      have hz4 : w3.heap.size < w4.heap.size := by have := b4.size; simp at this; omega
      have k0 : w4.cell? ⟨w3.heap.size, 0, none⟩ = some (.int .u32 (a : Int)) := by rw [hc4 _ _ (by simp)]; simp [go_sem]
      have k1 : w4.cell? ⟨w3.heap.size, 1, none⟩ = some (.int .i64 (n : Int)) := by rw [hc4 _ _ (by simp)]; simp [go_sem]
      have m0 : w4.cell? ⟨w.heap.size, 0, none⟩ = some (.int .u32 0) := by rw [hc4 _ _ (by simp; omega)]; simp [go_sem, hc, hz]
      have m1 : w4.cell? ⟨w.heap.size, 1, none⟩ = some (.int .i64 0) := by rw [hc4 _ _ (by simp; omega)]; simp [go_sem, hc, hz]
      clear hc4 hc
      go_wp2
      refine bodyPost_ret (v := .tuple #[.agg #[.int .u32 (a : Nat), .int .i64 (n : Nat)], .int .i64 0]) (by simp [results, Try.results9, go_sem, m0, m1]) rfl ?_
      rw [HP.out]
      exact ⟨rfl, (((((((Below.refl _ _).alloc (Nat.le_refl _) _).trans (B3.mono (by simp))).alloc (by omega) _).trans (b4.mono (by simp; omega))).setCell (by simp) _).setCell (by simp) _)⟩
    | false =>
      have HP : Hid (prefR l = (0, 0, 2)) := HR.out
      clear HR
      go_enter Try.func9, Try.ntmps9
      go_wp2_with fail
      refine (c1 _).mono ?_; rintro e w1 ⟨rfl, b1⟩
      go_wp2_with fail
      refine (c2 _).mono ?_; rintro e w2 ⟨rfl, b2⟩
      have B2 := b1.trans (b2.mono b1.size)
      clear b1 b2
      go_wp2_with fail
      refine (c3 _).mono ?_; rintro e w3 ⟨rfl, b3⟩
      have B3 := B2.trans (b3.mono B2.size)
      clear B2 b3
      obtain ⟨hc, hf⟩ := bcell_ B3
      have hz : w.heap.size < w3.heap.size := by have := B3.size; simp at this; omega
      go_wp2_with fail
      refine (hmay _).mono ?_; rintro e w4 ⟨rfl, b4⟩
      obtain ⟨hc4, hf4⟩ := bcell_ b4
      have hz4 : w3.heap.size < w4.heap.size := by have := b4.size; simp at this; omega
      have m0 : w4.cell? ⟨w.heap.size, 0, none⟩ = some (.int .u32 0) := by rw [hc4 _ _ (by simp; omega)]; simp [go_sem, hc, hz]
      have m1 : w4.cell? ⟨w.heap.size, 1, none⟩ = some (.int .i64 0) := by rw [hc4 _ _ (by simp; omega)]; simp [go_sem, hc, hz]
      clear hc4 hc
      go_wp2
      refine bodyPost_ret (v := .tuple #[.agg #[.int .u32 0, .int .i64 0], .int .i64 2]) (by simp [results, Try.results9, go_sem, m0, m1]) rfl ?_
      rw [HP.out]
      exact ⟨rfl, (((((((Below.refl _ _).alloc (Nat.le_refl _) _).trans (B3.mono (by simp))).alloc (by omega) _).trans (b4.mono (by simp; omega))).setCell (by simp) _).setCell (by simp) _)⟩
  · have HP : Hid (prefR l = (0, 0, 3)) := by
      refine prefR_none ?_
      cases y with
      | false => exact rpair_no0 (by decide) (by decide) HC.out
      | true =>
        cases h1 : parseV p with
        | none => exact rpair_no1 (by decide) (by decide) HC.out h1
        | some a =>
          cases h2 : numV 32 q with
          | none => exact rpair_no2 (by decide) (by decide) HC.out h2
          | some n => exact absurd ⟨rfl, by rw [h1]; rfl, by rw [h2]; rfl⟩ hgood
    have hways : y = false ∨ (y = true ∧ parseE p = 3) ∨ (y = true ∧ parseE p = 0 ∧ (numV 32 q).isSome = false) := by
      cases y with
      | false => exact .inl rfl
      | true =>
        unfold parseE
        cases h1 : parseV p with
        | none => exact .inr (.inl ⟨rfl, rfl⟩)
        | some a =>
          cases h2 : numV 32 q with
          | none => exact .inr (.inr ⟨rfl, rfl, rfl⟩)
          | some n => exact absurd ⟨rfl, by rw [h1]; rfl, by rw [h2]; rfl⟩ hgood
    clear hgood
    rcases hways with h | ⟨h, h'⟩ | ⟨h, h', h''⟩
    all_goals
      subst h
      try rw [h'] at c2
      try rw [h''] at c3
      try clear h'
      try clear h''
      go_enter Try.func9, Try.ntmps9
      go_wp2_with fail
      refine (c1 _).mono ?_; rintro e w1 ⟨rfl, b1⟩
      go_wp2_with fail
      refine (c2 _).mono ?_; rintro e w2 ⟨rfl, b2⟩
      have B2 := b1.trans (b2.mono b1.size)
      clear b1 b2
      go_wp2_with fail
      refine (c3 _).mono ?_; rintro e w3 ⟨rfl, b3⟩
      have B3 := B2.trans (b3.mono B2.size)
      clear B2 b3
      obtain ⟨hc, hf⟩ := bcell_ B3
      have hz : w.heap.size < w3.heap.size := by have := B3.size; simp at this; omega
      go_wp2
      refine bodyPost_ret (v := .tuple #[.agg #[.int .u32 0, .int .i64 0], .int .i64 3]) (by simp [results, Try.results9, go_sem, hc, hz]) rfl ?_
      rw [HP.out]
      exact ⟨rfl, ((((Below.refl _ _).alloc (Nat.le_refl _) _).trans (B3.mono (by simp))).setCell (by simp) _).setCell (by simp) _⟩
end Go.Proofs.Ytaaobacmlaaajaa
