/- Contracts: prefixes read, by the program and by the document. -/
import Derived.Test.YtaaobacmlaaajaaDoorAddrsH
namespace Go.Proofs.YtaaobacmlaaajaaDoor
set_option linter.unusedVariables false
set_option linter.unusedSimpArgs false
open Go.ChangeShapes Go.WideShapes Go.ChangeAt Go.RowKit Go.PlainAid
/-- What a text is read as: the address, the bits, the error. -/
def prefR (l : List UInt8) : Nat × Nat × Int :=
  match prefV l with
  | none => (0, 0, 3)
  | some (a, n) => if mayV a (n : Int) then (a, n, 0) else (0, 0, 2)
theorem prefR_none {l : List UInt8} (h : prefV l = none) : prefR l = (0, 0, 3) := by unfold prefR; rw [h]
theorem prefR_no {l : List UInt8} {a n : Nat} (h : prefV l = some (a, n)) (hm : mayV a (n : Int) = false) : prefR l = (0, 0, 2) := by unfold prefR; rw [h]; simp [hm]
theorem prefR_yes {l : List UInt8} {a n : Nat} (h : prefV l = some (a, n)) (hm : mayV a (n : Int) = true) : prefR l = (a, n, 0) := by unfold prefR; rw [h]; simp [hm]
set_option maxHeartbeats 4000000 in
set_option maxRecDepth 100000 in
theorem prefix_ (l : List UInt8) (w : World) (hl : l.length ≤ maxLen) :
    Calls Tryd.prog 22 #[.string (str l)] w fun e w' => e = .returned (.tuple #[.agg #[.int .u32 ((prefR l).1 : Nat), .int .i64 ((prefR l).2.1 : Nat)], .int .i64 (prefR l).2.2]) ∧ Below w.heap.size w w' := by
  have c1 := fun w => pair8_ l 47 w hl
  have hw := prefV_wide l
  rcases pair_cases 255 47 l with ⟨a, n, h0, h1, h2, h3⟩ | ⟨h0, h1, h2, h3⟩
  · rw [h1, h2, h3] at c1
    rw [h0] at hw
    simp only at hw
    have ha : a < 4294967296 := ((pairV_iff 255 47 l a n (by decide) (by decide)).1 h0).1
    have hn255 : n ≤ 255 := ((pairV_iff 255 47 l a n (by decide) (by decide)).1 h0).2.1
    clear h0 h1 h2 h3
    by_cases h32 : n ≤ 32
    · rw [if_pos h32] at hw
      have e1 : decide (32 < n) = false := by simp; omega
      have e1' : decide ((32 : Int) < (n : Int)) = false := by simp; omega
      have e2 : IntKind.i64.wrap (n : Int) = (n : Int) := IntWalk.i64_in _ (by omega)
      have hmay := fun w => may_ a (n : Int) w ha (by omega)
      cases hm : mayV a (n : Int) with
      | true =>
        have HP : Hid (prefR l = (a, n, 0)) := prefR_yes hw hm
        rw [hm] at hmay
        clear hw hm
        go_enter Tryd.func22, Tryd.ntmps22
        go_wp2_with fail
        refine (c1 _).mono ?_; rintro e w1 ⟨rfl, b1⟩
        obtain ⟨hc, hf⟩ := bcell_ b1
        have hz : w.heap.size < w1.heap.size := by have := b1.size; simp at this; omega
        go_wp2_with fail
        refine (hmay _).mono ?_; rintro e w2 ⟨rfl, b2⟩
        obtain ⟨hc2, hf2⟩ := bcell_ b2
        have hz2 : w.heap.size < w2.heap.size := by have := b2.size; simp at this; omega
        have k0 : w2.cell? ⟨w.heap.size, 0, none⟩ = some (.int .u32 (a : Int)) := by rw [hc2 _ _ (by simpa using hz)]; simp [go_sem, hc, hz]
        have k1 : w2.cell? ⟨w.heap.size, 1, none⟩ = some (.int .i64 (n : Int)) := by rw [hc2 _ _ (by simpa using hz)]; simp [go_sem, hc, hz]
        clear hc2 hc
        go_wp2
        refine bodyPost_ret (v := .tuple #[.agg #[.int .u32 (a : Nat), .int .i64 (n : Nat)], .int .i64 0]) (by simp [results, Tryd.results22, go_sem, k0, k1]) rfl ?_
        rw [HP.out]
        exact ⟨rfl, (((((((Below.refl _ _).alloc (Nat.le_refl _) _).trans (b1.mono (by simp))).setCell (by simp) _).setCell (by simp) _).trans (b2.mono (by simp; omega))).setCell (by simp) _).setCell (by simp) _⟩
      | false =>
        have HP : Hid (prefR l = (0, 0, 2)) := prefR_no hw hm
        rw [hm] at hmay
        clear hw hm
        go_enter Tryd.func22, Tryd.ntmps22
        go_wp2_with fail
        refine (c1 _).mono ?_; rintro e w1 ⟨rfl, b1⟩
        obtain ⟨hc, hf⟩ := bcell_ b1
        have hz : w.heap.size < w1.heap.size := by have := b1.size; simp at this; omega
        go_wp2_with fail
        refine (hmay _).mono ?_; rintro e w2 ⟨rfl, b2⟩
        obtain ⟨hc2, hf2⟩ := bcell_ b2
        have hz2 : w.heap.size < w2.heap.size := by have := b2.size; simp at this; omega
        have k0 : w2.cell? ⟨w.heap.size, 0, none⟩ = some (.int .u32 (a : Int)) := by rw [hc2 _ _ (by simpa using hz)]; simp [go_sem, hc, hz]
        have k1 : w2.cell? ⟨w.heap.size, 1, none⟩ = some (.int .i64 (n : Int)) := by rw [hc2 _ _ (by simpa using hz)]; simp [go_sem, hc, hz]
        clear hc2 hc
        go_wp2
        refine bodyPost_ret (v := .tuple #[.agg #[.int .u32 0, .int .i64 0], .int .i64 2]) (by simp [results, Tryd.results22, go_sem, k0, k1]) rfl ?_
        rw [HP.out]
        exact ⟨rfl, (((((((Below.refl _ _).alloc (Nat.le_refl _) _).trans (b1.mono (by simp))).setCell (by simp) _).setCell (by simp) _).trans (b2.mono (by simp; omega))).setCell (by simp) _).setCell (by simp) _⟩
    · rw [if_neg h32] at hw
      have e1 : decide (32 < n) = true := by simp; omega
      have e1' : decide ((32 : Int) < (n : Int)) = true := by simp; omega
      have HP : Hid (prefR l = (0, 0, 3)) := prefR_none hw
      clear hw h32
      go_enter Tryd.func22, Tryd.ntmps22
      go_wp2_with fail
      refine (c1 _).mono ?_; rintro e w1 ⟨rfl, b1⟩
      obtain ⟨hc, hf⟩ := bcell_ b1
      have hz : w.heap.size < w1.heap.size := by have := b1.size; simp at this; omega
      go_wp2
      refine bodyPost_ret (v := .tuple #[.agg #[.int .u32 0, .int .i64 0], .int .i64 3]) (by simp [results, Tryd.results22, go_sem, hc, hz]) rfl ?_
      rw [HP.out]
      exact ⟨rfl, ((((Below.refl _ _).alloc (Nat.le_refl _) _).trans (b1.mono (by simp))).setCell (by simp) _).setCell (by simp) _⟩
  · rw [h1, h2, h3] at c1
    rw [h0] at hw
    have HP : Hid (prefR l = (0, 0, 3)) := prefR_none hw
    clear hw h0 h1 h2 h3
    go_enter Tryd.func22, Tryd.ntmps22
    go_wp2_with fail
    refine (c1 _).mono ?_; rintro e w1 ⟨rfl, b1⟩
    obtain ⟨hc, hf⟩ := bcell_ b1
    have hz : w.heap.size < w1.heap.size := by have := b1.size; simp at this; omega
    go_wp2
    refine bodyPost_ret (v := .tuple #[.agg #[.int .u32 0, .int .i64 0], .int .i64 3]) (by simp [results, Tryd.results22, go_sem, hc, hz]) rfl ?_
    rw [HP.out]
    exact ⟨rfl, ((((Below.refl _ _).alloc (Nat.le_refl _) _).trans (b1.mono (by simp))).setCell (by simp) _).setCell (by simp) _⟩
end Go.Proofs.YtaaobacmlaaajaaDoor
