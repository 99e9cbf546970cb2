/- Contracts: pairs, prefixes and endpoints read, by the program and by the document. -/
import Derived.Test.YtaaobacmlaaajaaDoorAddrsE
import Derived.Test.YtaaobacmlaaajaaDoorAddrsG
namespace Go.Proofs.YtaaobacmlaaajaaDoor
set_option linter.unusedVariables false
set_option linter.unusedSimpArgs false
open Go.ChangeShapes Go.WideShapes Go.ChangeAt Go.RowKit Go.PlainAid
def pairE (most : Nat) (c : UInt8) (l : List UInt8) : Int := if (pairV most c l).isSome then 0 else 3
def pairA (most : Nat) (c : UInt8) (l : List UInt8) : Nat := ((pairV most c l).getD (0, 0)).1
def pairN (most : Nat) (c : UInt8) (l : List UInt8) : Nat := ((pairV most c l).getD (0, 0)).2
theorem parse_cases (l : List UInt8) : (∃ a, parseV l = some a ∧ parseA l = a ∧ parseE l = 0 ∧ a < 4294967296) ∨ (parseV l = none ∧ parseA l = 0 ∧ parseE l = 3) := by
  unfold parseA parseE
  cases h : parseV l with
  | none => exact .inr ⟨rfl, rfl, rfl⟩
  | some a => exact .inl ⟨a, rfl, rfl, rfl, parseV_lt h⟩
theorem num_cases (most : Nat) (l : List UInt8) : (∃ n, numV most l = some n ∧ numN most l = n ∧ (numV most l).isSome = true ∧ n ≤ most) ∨ (numV most l = none ∧ numN most l = 0 ∧ (numV most l).isSome = false) := by
  unfold numN
  cases h : numV most l with
  | none => exact .inr ⟨rfl, rfl, rfl⟩
  | some n => exact .inl ⟨n, rfl, rfl, rfl, numV_le h⟩
theorem pair_cases (most : Nat) (c : UInt8) (l : List UInt8) : (∃ a n, pairV most c l = some (a, n) ∧ pairA most c l = a ∧ pairN most c l = n ∧ pairE most c l = 0) ∨ (pairV most c l = none ∧ pairA most c l = 0 ∧ pairN most c l = 0 ∧ pairE most c l = 3) := by
  unfold pairA pairN pairE
  cases h : pairV most c l with
  | none => exact .inr ⟨rfl, rfl, rfl, rfl⟩
  | some q => exact .inl ⟨q.1, q.2, rfl, rfl, rfl, rfl⟩
theorem pair_yes {most : Nat} {c : UInt8} {l p q : List UInt8} {z : Bool} {a n : Nat} (hc : cut1 c l = (p, q, z)) (h1 : parseV p = some a) (h2 : numV most q = some n) : pairA most c l = a ∧ pairN most c l = n ∧ pairE most c l = 0 := by
  have h : pairV most c l = some (a, n) := by unfold pairV; rw [hc]; simp [h1, h2]
  unfold pairA pairN pairE
  rw [h]; exact ⟨rfl, rfl, rfl⟩
theorem pair_no1 {most : Nat} {c : UInt8} {l p q : List UInt8} {z : Bool} (hc : cut1 c l = (p, q, z)) (h1 : parseV p = none) : pairA most c l = 0 ∧ pairN most c l = 0 ∧ pairE most c l = 3 := by
  have h : pairV most c l = none := by unfold pairV; rw [hc]; simp [h1]
  unfold pairA pairN pairE
  rw [h]; exact ⟨rfl, rfl, rfl⟩
theorem pair_no2 {most : Nat} {c : UInt8} {l p q : List UInt8} {z : Bool} (hc : cut1 c l = (p, q, z)) (h1 : numV most q = none) : pairA most c l = 0 ∧ pairN most c l = 0 ∧ pairE most c l = 3 := by
  have h : pairV most c l = none := by unfold pairV; rw [hc]; simp [h1]
  unfold pairA pairN pairE
  rw [h]; exact ⟨rfl, rfl, rfl⟩
set_option maxHeartbeats 4000000 in
set_option maxRecDepth 100000 in
theorem pair8_ (l : List UInt8) (c : UInt8) (w : World) (hl : l.length ≤ maxLen) :
    Calls Tryd.prog 31 #[.string (str l), .string ⟨#[c]⟩] w fun e w' => e = .returned (.tuple #[.int .u32 (pairA 255 c l : Nat), .int .u8 (pairN 255 c l : Nat), .int .i64 (pairE 255 c l)]) ∧ Below w.heap.size w w' := by
  obtain ⟨p, q, z, hc⟩ : ∃ p q z, cut1 c l = (p, q, z) := ⟨_, _, _, rfl⟩
  have hcl := cut1_len c l
  have c1 := fun w => cut_ l c w hl
  rw [hc] at hcl c1
  simp only at hcl c1
  obtain ⟨hl1, hl2⟩ := hcl
  have HC := Lib.hid hc
  have c2 := fun w => parse_ p w (by omega)
  have c3 := fun w => num8_ q w (by omega)
  clear hc
  rcases parse_cases p with ⟨a, h1, h2, h3, h4⟩ | ⟨h1, h2, h3⟩
  · rw [h2, h3] at c2
    rcases num_cases 255 q with ⟨n, g1, g2, g3, g4⟩ | ⟨g1, g2, g3⟩
    · rw [g2, g3] at c3
      have HP : Hid (pairA 255 c l = a ∧ pairN 255 c l = n ∧ pairE 255 c l = 0) := pair_yes HC.out h1 g1
      clear h1 h2 h3 g1 g2 g3
      go_enter Tryd.func31, Tryd.ntmps31
      go_wp2_with fail
      refine (c1 _).mono ?_; rintro e w1 ⟨rfl, b1⟩
      go_wp2_with fail
      refine (c2 _).mono ?_; rintro e w2 ⟨rfl, b2⟩
      have B2 := b1.trans (b2.mono b1.size)
      clear b1 b2
      go_wp2_with fail
      refine (c3 _).mono ?_; rintro e w3 ⟨rfl, rfl⟩
      go_wp2
      go_ret3
      rw [HP.out.1, HP.out.2.1, HP.out.2.2]
      exact ⟨rfl, B2⟩
    · rw [g2, g3] at c3
      have HP : Hid (pairA 255 c l = 0 ∧ pairN 255 c l = 0 ∧ pairE 255 c l = 3) := pair_no2 HC.out g1
      clear h1 h2 h3 g1 g2 g3
      go_enter Tryd.func31, Tryd.ntmps31
      go_wp2_with fail
      refine (c1 _).mono ?_; rintro e w1 ⟨rfl, b1⟩
      go_wp2_with fail
      refine (c2 _).mono ?_; rintro e w2 ⟨rfl, b2⟩
      have B2 := b1.trans (b2.mono b1.size)
      clear b1 b2
      go_wp2_with fail
      refine (c3 _).mono ?_; rintro e w3 ⟨rfl, rfl⟩
      go_wp2
      go_ret3
      rw [HP.out.1, HP.out.2.1, HP.out.2.2]
      exact ⟨rfl, B2⟩
  · rw [h2, h3] at c2
    have HP : Hid (pairA 255 c l = 0 ∧ pairN 255 c l = 0 ∧ pairE 255 c l = 3) := pair_no1 HC.out h1
    clear h1 h2 h3
    go_enter Tryd.func31, Tryd.ntmps31
    go_wp2_with fail
    refine (c1 _).mono ?_; rintro e w1 ⟨rfl, b1⟩
    go_wp2_with fail
    refine (c2 _).mono ?_; rintro e w2 ⟨rfl, b2⟩
    have B2 := b1.trans (b2.mono b1.size)
    clear b1 b2
    go_wp2_with fail
    refine (c3 _).mono ?_; rintro e w3 ⟨rfl, rfl⟩
    go_wp2
    go_ret3
    rw [HP.out.1, HP.out.2.1, HP.out.2.2]
    exact ⟨rfl, B2⟩
set_option maxHeartbeats 4000000 in
set_option maxRecDepth 100000 in
theorem pair16_ (l : List UInt8) (c : UInt8) (w : World) (hl : l.length ≤ maxLen) :
    Calls Tryd.prog 28 #[.string (str l), .string ⟨#[c]⟩] w fun e w' => e = .returned (.tuple #[.int .u32 (pairA 65535 c l : Nat), .int .u16 (pairN 65535 c l : Nat), .int .i64 (pairE 65535 c l)]) ∧ Below w.heap.size w w' := by
  obtain ⟨p, q, z, hc⟩ : ∃ p q z, cut1 c l = (p, q, z) := ⟨_, _, _, rfl⟩
  have hcl := cut1_len c l
  have c1 := fun w => cut_ l c w hl
  rw [hc] at hcl c1
  simp only at hcl c1
  obtain ⟨hl1, hl2⟩ := hcl
  have HC := Lib.hid hc
  have c2 := fun w => parse_ p w (by omega)
  have c3 := fun w => num16_ q w (by omega)
  clear hc
  rcases parse_cases p with ⟨a, h1, h2, h3, h4⟩ | ⟨h1, h2, h3⟩
  · rw [h2, h3] at c2
    rcases num_cases 65535 q with ⟨n, g1, g2, g3, g4⟩ | ⟨g1, g2, g3⟩
    · rw [g2, g3] at c3
      have HP : Hid (pairA 65535 c l = a ∧ pairN 65535 c l = n ∧ pairE 65535 c l = 0) := pair_yes HC.out h1 g1
      clear h1 h2 h3 g1 g2 g3
      go_enter Tryd.func28, Tryd.ntmps28
      go_wp2_with fail
      refine (c1 _).mono ?_; rintro e w1 ⟨rfl, b1⟩
      go_wp2_with fail
      refine (c2 _).mono ?_; rintro e w2 ⟨rfl, b2⟩
      have B2 := b1.trans (b2.mono b1.size)
      clear b1 b2
      go_wp2_with fail
      refine (c3 _).mono ?_; rintro e w3 ⟨rfl, rfl⟩
      go_wp2
      go_ret3
      rw [HP.out.1, HP.out.2.1, HP.out.2.2]
      exact ⟨rfl, B2⟩
    · rw [g2, g3] at c3
      have HP : Hid (pairA 65535 c l = 0 ∧ pairN 65535 c l = 0 ∧ pairE 65535 c l = 3) := pair_no2 HC.out g1
      clear h1 h2 h3 g1 g2 g3
      go_enter Tryd.func28, Tryd.ntmps28
      go_wp2_with fail
      refine (c1 _).mono ?_; rintro e w1 ⟨rfl, b1⟩
      go_wp2_with fail
      refine (c2 _).mono ?_; rintro e w2 ⟨rfl, b2⟩
      have B2 := b1.trans (b2.mono b1.size)
      clear b1 b2
      go_wp2_with fail
      refine (c3 _).mono ?_; rintro e w3 ⟨rfl, rfl⟩
      go_wp2
      go_ret3
      rw [HP.out.1, HP.out.2.1, HP.out.2.2]
      exact ⟨rfl, B2⟩
  · rw [h2, h3] at c2
    have HP : Hid (pairA 65535 c l = 0 ∧ pairN 65535 c l = 0 ∧ pairE 65535 c l = 3) := pair_no1 HC.out h1
    clear h1 h2 h3
    go_enter Tryd.func28, Tryd.ntmps28
    go_wp2_with fail
    refine (c1 _).mono ?_; rintro e w1 ⟨rfl, b1⟩
    go_wp2_with fail
    refine (c2 _).mono ?_; rintro e w2 ⟨rfl, b2⟩
    have B2 := b1.trans (b2.mono b1.size)
    clear b1 b2
    go_wp2_with fail
    refine (c3 _).mono ?_; rintro e w3 ⟨rfl, rfl⟩
    go_wp2
    go_ret3
    rw [HP.out.1, HP.out.2.1, HP.out.2.2]
    exact ⟨rfl, B2⟩
theorem bcell_ {W w1 : World} (hb : Below W.heap.size W w1) : (∀ b o, b < W.heap.size → w1.cell? ⟨b, o, none⟩ = W.cell? ⟨b, o, none⟩) ∧ (∀ b o, b < W.heap.size → w1.frozen? ⟨b, o, none⟩ = W.frozen? ⟨b, o, none⟩) :=
  ⟨fun b o h => hb.cell (p := ⟨b, o, none⟩) h, fun b o h => hb.frozen (p := ⟨b, o, none⟩) h⟩
def pointE (l : List UInt8) : Int := pairE 65535 58 l
def pointA (l : List UInt8) : Nat := pairA 65535 58 l
def pointN (l : List UInt8) : Nat := pairN 65535 58 l
set_option maxHeartbeats 4000000 in
set_option maxRecDepth 100000 in
theorem point_ (l : List UInt8) (w : World) (hl : l.length ≤ maxLen) :
    Calls Tryd.prog 20 #[.string (str l)] w fun e w' => e = .returned (.tuple #[.agg #[.int .u32 (pointA l : Nat), .int .u16 (pointN l : Nat)], .int .i64 (pointE l)]) ∧ Below w.heap.size w w' := by
  have c1 := fun w => pair16_ l 58 w hl
  have HD : Hid (pointA l = pairA 65535 58 l ∧ pointN l = pairN 65535 58 l ∧ pointE l = pairE 65535 58 l) := ⟨rfl, rfl, rfl⟩
  rcases pair_cases 65535 58 l with ⟨a, n, h0, h1, h2, h3⟩ | ⟨h0, h1, h2, h3⟩
  · rw [h1, h2, h3] at c1 HD
    clear h0 h1 h2 h3
    go_enter Tryd.func20, Tryd.ntmps20
    go_wp2_with fail
    refine (c1 _).mono ?_; rintro e w1 ⟨rfl, b1⟩
    obtain ⟨hc, hf⟩ := bcell_ b1
    have hz : w.heap.size < w1.heap.size := by have := b1.size; simp at this; omega
    go_wp2
    refine bodyPost_ret (v := .tuple #[.agg #[.int .u32 (a : Nat), .int .u16 (n : Nat)], .int .i64 0]) (by simp [results, Tryd.results20, go_sem, hc, hz]) rfl ?_
    rw [HD.out.1, HD.out.2.1, HD.out.2.2]
    exact ⟨rfl, ((((Below.refl _ _).alloc (Nat.le_refl _) _).trans (b1.mono (by simp))).setCell (by simp) _).setCell (by simp) _⟩
  · rw [h1, h2, h3] at c1 HD
    clear h0 h1 h2 h3
    go_enter Tryd.func20, Tryd.ntmps20
    go_wp2_with fail
    refine (c1 _).mono ?_; rintro e w1 ⟨rfl, b1⟩
    obtain ⟨hc, hf⟩ := bcell_ b1
    have hz : w.heap.size < w1.heap.size := by have := b1.size; simp at this; omega
    go_wp2
    refine bodyPost_ret (v := .tuple #[.agg #[.int .u32 0, .int .u16 0], .int .i64 3]) (by simp [results, Tryd.results20, go_sem, hc, hz]) rfl ?_
    rw [HD.out.1, HD.out.2.1, HD.out.2.2]
    exact ⟨rfl, ((((Below.refl _ _).alloc (Nat.le_refl _) _).trans (b1.mono (by simp))).setCell (by simp) _).setCell (by simp) _⟩
theorem rpair_yes {most : Nat} {c : UInt8} {l p q : List UInt8} {a n : Nat} (hd : isDig c = false) (hd2 : c ≠ 46) (hc : cutZ c l = (p, q, true)) (h1 : parseV p = some a) (h2 : numV most q = some n) : pairV most c l = some (a, n) := by
  rw [← pairR_eq most c l hd hd2]; unfold pairR; rw [hc]; simp [h1, h2]
theorem rpair_no0 {most : Nat} {c : UInt8} {l p q : List UInt8} (hd : isDig c = false) (hd2 : c ≠ 46) (hc : cutZ c l = (p, q, false)) : pairV most c l = none := by
  rw [← pairR_eq most c l hd hd2]; unfold pairR; rw [hc]; simp
theorem rpair_no1 {most : Nat} {c : UInt8} {l p q : List UInt8} (hd : isDig c = false) (hd2 : c ≠ 46) (hc : cutZ c l = (p, q, true)) (h1 : parseV p = none) : pairV most c l = none := by
  rw [← pairR_eq most c l hd hd2]; unfold pairR; rw [hc]; simp [h1]
theorem rpair_no2 {most : Nat} {c : UInt8} {l p q : List UInt8} (hd : isDig c = false) (hd2 : c ≠ 46) (hc : cutZ c l = (p, q, true)) (h1 : numV most q = none) : pairV most c l = none := by
  rw [← pairR_eq most c l hd hd2]; unfold pairR; rw [hc]; simp [h1]
theorem point_val {l : List UInt8} {a n : Nat} (h : pairV 65535 58 l = some (a, n)) : pointA l = a ∧ pointN l = n ∧ pointE l = 0 := by
  unfold pointA pointN pointE pairA pairN pairE; rw [h]; exact ⟨rfl, rfl, rfl⟩
theorem point_none {l : List UInt8} (h : pairV 65535 58 l = none) : pointA l = 0 ∧ pointN l = 0 ∧ pointE l = 3 := by
  unfold pointA pointN pointE pairA pairN pairE; rw [h]; exact ⟨rfl, rfl, rfl⟩
end Go.Proofs.YtaaobacmlaaajaaDoor
