/- The walk of AddrsForm. -/
import Derived.Test.YtaaobacmlaaajaaDoorAddrsQ
import Derived.Test.YtaaobacmlaaajaaDoorAddrsI
namespace Go.Proofs.YtaaobacmlaaajaaDoor.AddrsForm
set_option linter.unusedVariables false
set_option linter.unusedSimpArgs false
open Go.ChangeShapes Go.WideShapes Go.ChangeAt Go.RowKit Go.PlainAid
theorem ix0 (x y z : Bool) (w : World) : (Instr.index 46 (.agg #[.bool x, .bool y, .bool z]) (.int .i64 0)).run Tryd.prog w = .ok (.bool x) w := by
  simp [Instr.index, run_underlying Tryd.underlying46, asIntOf, go_sem]
theorem ix1 (x y z : Bool) (w : World) : (Instr.index 46 (.agg #[.bool x, .bool y, .bool z]) (.int .i64 1)).run Tryd.prog w = .ok (.bool y) w := by
  simp [Instr.index, run_underlying Tryd.underlying46, asIntOf, go_sem]
theorem ix2 (x y z : Bool) (w : World) : (Instr.index 46 (.agg #[.bool x, .bool y, .bool z]) (.int .i64 2)).run Tryd.prog w = .ok (.bool z) w := by
  simp [Instr.index, run_underlying Tryd.underlying46, asIntOf, go_sem]
/-- A text is an address's, a prefix's, an endpoint's, or none of these: never two. -/
theorem kinds (l : List UInt8) :
    (∃ a, a < 4294967296 ∧ textL a = l ∧ parseA l = a ∧ parseE l = 0 ∧ prefR l = (0, 0, 3) ∧ pointA l = 0 ∧ pointN l = 0 ∧ pointE l = 3) ∨
    (∃ a n, a < 4294967296 ∧ n ≤ 32 ∧ prefL a ((n : Nat) : Int) = l ∧ parseA l = 0 ∧ parseE l = 3 ∧ prefR l = (a, n, 0) ∧ pointA l = 0 ∧ pointN l = 0 ∧ pointE l = 3) ∨
    (∃ a n, a < 4294967296 ∧ n ≤ 65535 ∧ pointL a n = l ∧ parseA l = 0 ∧ parseE l = 3 ∧ prefR l = (0, 0, 3) ∧ pointA l = a ∧ pointN l = n ∧ pointE l = 0) ∨
    (parseA l = 0 ∧ parseE l = 3 ∧ prefR l = (0, 0, 2) ∧ pointA l = 0 ∧ pointN l = 0 ∧ pointE l = 3) ∨
    (parseA l = 0 ∧ parseE l = 3 ∧ prefR l = (0, 0, 3) ∧ pointA l = 0 ∧ pointN l = 0 ∧ pointE l = 3) := by
  have d47 : isDig 47 = false := by decide
  have d58 : isDig 58 = false := by decide
  -- which byte the text has
  have hA : ∀ a, parseV l = some a → 47 ∉ l ∧ 58 ∉ l := by
    intro a h
    obtain ⟨_, rfl⟩ := (parseV_iff _ _).1 h
    exact ⟨text_no a 47 d47 (by decide), text_no a 58 d58 (by decide)⟩
  have hP : ∀ a n, prefV l = some (a, n) → 47 ∈ l ∧ 58 ∉ l := by
    intro a n h
    obtain ⟨_, _, rfl⟩ := (pairV_iff 32 47 l a n (by decide) (by decide)).1 h
    refine ⟨by simp, ?_⟩
    simp [text_no a 58 d58 (by decide), dec_no n 58 d58]
  have hX : ∀ a n, pairV 65535 58 l = some (a, n) → 58 ∈ l ∧ 47 ∉ l := by
    intro a n h
    obtain ⟨_, _, rfl⟩ := (pairV_iff 65535 58 l a n (by decide) (by decide)).1 h
    refine ⟨by simp, ?_⟩
    simp [text_no a 47 d47 (by decide), dec_no n 47 d47]
  cases h1 : parseV l with
  | some a =>
    obtain ⟨n47, n58⟩ := hA a h1
    obtain ⟨g1, g2⟩ := (parseV_iff _ _).1 h1
    have h2 : prefV l = none := by
      cases h : prefV l with
      | none => rfl
      | some q => exact absurd (hP q.1 q.2 h).1 n47
    have h3 : pairV 65535 58 l = none := by
      cases h : pairV 65535 58 l with
      | none => rfl
      | some q => exact absurd (hX q.1 q.2 h).1 n58
    obtain ⟨k1, k2, k3⟩ := point_none h3
    exact .inl ⟨a, g1, g2, by unfold parseA; rw [h1]; rfl, by unfold parseE; rw [h1]; rfl, prefR_none h2, k1, k2, k3⟩
  | none =>
    have e1 : parseA l = 0 := by unfold parseA; rw [h1]; rfl
    have e2 : parseE l = 3 := by unfold parseE; rw [h1]; rfl
    cases h2 : prefV l with
    | some q =>
      obtain ⟨a, n⟩ := q
      obtain ⟨n47, n58⟩ := hP a n h2
      obtain ⟨g1, g2, g3⟩ := (pairV_iff 32 47 l a n (by decide) (by decide)).1 h2
      have h3 : pairV 65535 58 l = none := by
        cases h : pairV 65535 58 l with
        | none => rfl
        | some q => exact absurd (hX q.1 q.2 h).1 n58
      obtain ⟨k1, k2, k3⟩ := point_none h3
      cases hm : mayV a ((n : Nat) : Int) with
      | true => exact .inr (.inl ⟨a, n, g1, g2, by unfold prefL; rw [if_pos hm]; simpa using g3, e1, e2, prefR_yes h2 hm, k1, k2, k3⟩)
      | false => exact .inr (.inr (.inr (.inl ⟨e1, e2, prefR_no h2 hm, k1, k2, k3⟩)))
    | none =>
      cases h3 : pairV 65535 58 l with
      | some q =>
        obtain ⟨a, n⟩ := q
        obtain ⟨g1, g2, g3⟩ := (pairV_iff 65535 58 l a n (by decide) (by decide)).1 h3
        obtain ⟨k1, k2, k3⟩ := point_val h3
        exact .inr (.inr (.inl ⟨a, n, g1, g2, g3, e1, e2, prefR_none h2, k1, k2, k3⟩))
      | none =>
        obtain ⟨k1, k2, k3⟩ := point_none h3
        exact .inr (.inr (.inr (.inr ⟨e1, e2, prefR_none h2, k1, k2, k3⟩)))
set_option maxHeartbeats 4000000 in
set_option maxRecDepth 100000 in
theorem walk (s : ByteArray) (w : World) (ht : Tab w) (hs : s.size ≤ maxLen) :
    Calls Tryd.prog 5 #[.string s] w fun e w' => e = .returned (.bool true) ∧ Below w.heap.size w w' := by
  unfold maxLen at hs
  have hs2 : (s.size : Int) ≤ 9223372036854775807 := by omega
  by_cases hlong : 100 < s.size
  · have e1 : decide (100 < s.size) = true := by simpa using hlong
    have e2 : decide ((100 : Int) < (s.size : Int)) = true := by simp; omega
    go_enter Tryd.func5, Tryd.ntmps5
    go_wp2_with fail
    refine (named_ _).mono ?_; rintro e w1 ⟨rfl, b1⟩
    go_wp2
    go_ret
    exact ⟨rfl, b1⟩
  · have e1 : decide (100 < s.size) = false := by simpa using hlong
    have e2 : decide ((100 : Int) < (s.size : Int)) = false := by simp; omega
    obtain ⟨l, hl⟩ := str_of s
    have hll : l.length ≤ maxLen := by rw [hl, str_size] at hs; unfold maxLen; omega
    have c1 := fun w => parse_ l w hll
    have c3 := fun w => prefix_ l w hll
    have c5 := fun w => point_ l w hll
    rw [← hl] at c1 c3 c5
    clear hll hlong
    rcases kinds l with ⟨a, ha, hx, v1, v2, v3, v4, v5, v6⟩ | ⟨a, n, ha, hn, hx, v1, v2, v3, v4, v5, v6⟩ | ⟨a, n, ha, hn, hx, v1, v2, v3, v4, v5, v6⟩ | ⟨v1, v2, v3, v4, v5, v6⟩ | ⟨v1, v2, v3, v4, v5, v6⟩
    · rw [v1, v2] at c1
      rw [v3] at c3
      rw [v4, v5, v6] at c5
      try simp only [Int.ofNat_zero, Int.natCast_zero] at c1 c3 c5
      have c7 := fun u hu => text_ a u ha hu
      rw [hx, ← hl] at c7
      clear v1 v2 v3 v4 v5 v6 hl
      clear hx
      have j0 := ix0 true false false
      have j1 := ix1 true false false
      have j2 := ix2 true false false
      go_enter Tryd.func5, Tryd.ntmps5
      go_wp2_with fail
      refine (c1 _).mono ?_; rintro e w1 ⟨rfl, b1⟩
      have T1 := ht.on b1
      go_wp2_with fail
      refine (c3 _).mono ?_; rintro e w2 ⟨rfl, b2⟩
      have B2 := b1.trans (b2.mono b1.size)
      have T2 := T1.on b2
      clear b1 b2 T1
      go_wp2_with fail
      refine (c5 _).mono ?_; rintro e w3 ⟨rfl, b3⟩
      have p0 : w3.cell? ⟨w2.heap.size, 0, none⟩ = some (.int .u32 0) := kept_ b3 (by simp [go_sem]) (by simp)
      have p1 : w3.cell? ⟨w2.heap.size, 1, none⟩ = some (.int .i64 0) := kept_ b3 (by simp [go_sem]) (by simp)
      obtain ⟨B3, s3⟩ := step_ B2 b3
      have T3 := T2.on (((Below.refl _ _).alloc (Nat.le_refl _) _).trans (b3.mono (by simp)))
      clear B2 b3 T2
      go_wp2_with fail
      refine (c7 _ (T3.on ((Below.refl _ _).alloc (Nat.le_refl _) _))).mono ?_; rintro e w4 ⟨rfl, b4⟩
      obtain ⟨B4, s4⟩ := step_ B3 b4
      clear B3 b4 c7 T3
      go_wp2_with fail
      clear p0 p1 c1 c3 c5
      go_loopw [9, 66] (fun v si wr => ∃ z c : Int, ((z = 0 ∧ c = 0) ∨ (z = 1 ∧ c = 1) ∨ (z = 2 ∧ c = 1) ∨ (z = 3 ∧ c = 1)) ∧ si = .int .i64 z ∧ v = .int .i64 c ∧ Below w.heap.size w wr) (fun _ si _ => 3 - (intOf si).toNat)
      case atStart => exact ⟨0, 0, by omega, rfl, rfl, B4⟩
      case round =>
        obtain ⟨z, c, hzc, rfl, rfl, B5⟩ := hrel
        clear B4
        rcases hzc with ⟨h, h'⟩ | ⟨h, h'⟩ | ⟨h, h'⟩ | ⟨h, h'⟩ <;> subst h <;> subst h'
        · go_wp2
          go_roundw
          case rel => exact ⟨1, 1, by omega, rfl, rfl, B5⟩
          case measure => simp [intOf]
        · go_wp2
          go_roundw
          case rel => exact ⟨2, 1, by omega, rfl, rfl, B5⟩
          case measure => simp [intOf]
        · go_wp2
          go_roundw
          case rel => exact ⟨3, 1, by omega, rfl, rfl, B5⟩
          case measure => simp [intOf]
        · go_wp2_with fail
          refine (named_ _).mono ?_; rintro e w6 ⟨rfl, b6⟩
          have B6 := B5.trans (b6.mono B5.size)
          clear B5 b6
          go_wp2
          go_ret
          exact ⟨rfl, B6⟩
    · rw [v1, v2] at c1
      rw [v3] at c3
      rw [v4, v5, v6] at c5
      try simp only [Int.ofNat_zero, Int.natCast_zero] at c1 c3 c5
      have c7 := fun u hu => prefText_ a ((n : Nat) : Int) u ha (by omega) hu
      rw [hx, ← hl] at c7
      clear v1 v2 v3 v4 v5 v6 hl
      clear hx
      have j0 := ix0 false true false
      have j1 := ix1 false true false
      have j2 := ix2 false true false
      go_enter Tryd.func5, Tryd.ntmps5
      go_wp2_with fail
      refine (c1 _).mono ?_; rintro e w1 ⟨rfl, b1⟩
      have T1 := ht.on b1
      go_wp2_with fail
      refine (c3 _).mono ?_; rintro e w2 ⟨rfl, b2⟩
      have B2 := b1.trans (b2.mono b1.size)
      have T2 := T1.on b2
      clear b1 b2 T1
      go_wp2_with fail
      refine (c5 _).mono ?_; rintro e w3 ⟨rfl, b3⟩
      have p0 : w3.cell? ⟨w2.heap.size, 0, none⟩ = some (.int .u32 (a : Int)) := kept_ b3 (by simp [go_sem]) (by simp)
      have p1 : w3.cell? ⟨w2.heap.size, 1, none⟩ = some (.int .i64 (n : Int)) := kept_ b3 (by simp [go_sem]) (by simp)
      obtain ⟨B3, s3⟩ := step_ B2 b3
      have T3 := T2.on (((Below.refl _ _).alloc (Nat.le_refl _) _).trans (b3.mono (by simp)))
      clear B2 b3 T2
      go_wp2_with fail
      refine (c7 _ (T3.on ((Below.refl _ _).alloc (Nat.le_refl _) _))).mono ?_; rintro e w4 ⟨rfl, b4⟩
      obtain ⟨B4, s4⟩ := step_ B3 b4
      clear B3 b4 c7 T3
      go_wp2_with fail
      clear p0 p1 c1 c3 c5
      go_loopw [9, 66] (fun v si wr => ∃ z c : Int, ((z = 0 ∧ c = 0) ∨ (z = 1 ∧ c = 0) ∨ (z = 2 ∧ c = 1) ∨ (z = 3 ∧ c = 1)) ∧ si = .int .i64 z ∧ v = .int .i64 c ∧ Below w.heap.size w wr) (fun _ si _ => 3 - (intOf si).toNat)
      case atStart => exact ⟨0, 0, by omega, rfl, rfl, B4⟩
      case round =>
        obtain ⟨z, c, hzc, rfl, rfl, B5⟩ := hrel
        clear B4
        rcases hzc with ⟨h, h'⟩ | ⟨h, h'⟩ | ⟨h, h'⟩ | ⟨h, h'⟩ <;> subst h <;> subst h'
        · go_wp2
          go_roundw
          case rel => exact ⟨1, 0, by omega, rfl, rfl, B5⟩
          case measure => simp [intOf]
        · go_wp2
          go_roundw
          case rel => exact ⟨2, 1, by omega, rfl, rfl, B5⟩
          case measure => simp [intOf]
        · go_wp2
          go_roundw
          case rel => exact ⟨3, 1, by omega, rfl, rfl, B5⟩
          case measure => simp [intOf]
        · go_wp2_with fail
          refine (named_ _).mono ?_; rintro e w6 ⟨rfl, b6⟩
          have B6 := B5.trans (b6.mono B5.size)
          clear B5 b6
          go_wp2
          go_ret
          exact ⟨rfl, B6⟩
    · rw [v1, v2] at c1
      rw [v3] at c3
      rw [v4, v5, v6] at c5
      try simp only [Int.ofNat_zero, Int.natCast_zero] at c1 c3 c5
      have c7 := fun u hu => pointText_ a n u ha hn hu
      rw [hx, ← hl] at c7
      clear v1 v2 v3 v4 v5 v6 hl
      clear hx
      have j0 := ix0 false false true
      have j1 := ix1 false false true
      have j2 := ix2 false false true
      go_enter Tryd.func5, Tryd.ntmps5
      go_wp2_with fail
      refine (c1 _).mono ?_; rintro e w1 ⟨rfl, b1⟩
      have T1 := ht.on b1
      go_wp2_with fail
      refine (c3 _).mono ?_; rintro e w2 ⟨rfl, b2⟩
      have B2 := b1.trans (b2.mono b1.size)
      have T2 := T1.on b2
      clear b1 b2 T1
      go_wp2_with fail
      refine (c5 _).mono ?_; rintro e w3 ⟨rfl, b3⟩
      have p0 : w3.cell? ⟨w2.heap.size, 0, none⟩ = some (.int .u32 0) := kept_ b3 (by simp [go_sem]) (by simp)
      have p1 : w3.cell? ⟨w2.heap.size, 1, none⟩ = some (.int .i64 0) := kept_ b3 (by simp [go_sem]) (by simp)
      obtain ⟨B3, s3⟩ := step_ B2 b3
      have T3 := T2.on (((Below.refl _ _).alloc (Nat.le_refl _) _).trans (b3.mono (by simp)))
      clear B2 b3 T2
      go_wp2_with fail
      refine (c7 _ (T3.on ((Below.refl _ _).alloc (Nat.le_refl _) _))).mono ?_; rintro e w4 ⟨rfl, b4⟩
      obtain ⟨B4, s4⟩ := step_ B3 b4
      clear B3 b4 c7 T3
      go_wp2_with fail
      clear p0 p1 c1 c3 c5
      go_loopw [9, 66] (fun v si wr => ∃ z c : Int, ((z = 0 ∧ c = 0) ∨ (z = 1 ∧ c = 0) ∨ (z = 2 ∧ c = 0) ∨ (z = 3 ∧ c = 1)) ∧ si = .int .i64 z ∧ v = .int .i64 c ∧ Below w.heap.size w wr) (fun _ si _ => 3 - (intOf si).toNat)
      case atStart => exact ⟨0, 0, by omega, rfl, rfl, B4⟩
      case round =>
        obtain ⟨z, c, hzc, rfl, rfl, B5⟩ := hrel
        clear B4
        rcases hzc with ⟨h, h'⟩ | ⟨h, h'⟩ | ⟨h, h'⟩ | ⟨h, h'⟩ <;> subst h <;> subst h'
        · go_wp2
          go_roundw
          case rel => exact ⟨1, 0, by omega, rfl, rfl, B5⟩
          case measure => simp [intOf]
        · go_wp2
          go_roundw
          case rel => exact ⟨2, 0, by omega, rfl, rfl, B5⟩
          case measure => simp [intOf]
        · go_wp2
          go_roundw
          case rel => exact ⟨3, 1, by omega, rfl, rfl, B5⟩
          case measure => simp [intOf]
        · go_wp2_with fail
          refine (named_ _).mono ?_; rintro e w6 ⟨rfl, b6⟩
          have B6 := B5.trans (b6.mono B5.size)
          clear B5 b6
          go_wp2
          go_ret
          exact ⟨rfl, B6⟩
    · rw [v1, v2] at c1
      rw [v3] at c3
      rw [v4, v5, v6] at c5
      try simp only [Int.ofNat_zero, Int.natCast_zero] at c1 c3 c5
      clear v1 v2 v3 v4 v5 v6 hl
      have j0 := ix0 false false false
      have j1 := ix1 false false false
      have j2 := ix2 false false false
      go_enter Tryd.func5, Tryd.ntmps5
      go_wp2_with fail
      refine (c1 _).mono ?_; rintro e w1 ⟨rfl, b1⟩
      have T1 := ht.on b1
      go_wp2_with fail
      refine (c3 _).mono ?_; rintro e w2 ⟨rfl, b2⟩
      have B2 := b1.trans (b2.mono b1.size)
      have T2 := T1.on b2
      clear b1 b2 T1
      go_wp2_with fail
      refine (c5 _).mono ?_; rintro e w3 ⟨rfl, b3⟩
      have p0 : w3.cell? ⟨w2.heap.size, 0, none⟩ = some (.int .u32 0) := kept_ b3 (by simp [go_sem]) (by simp)
      have p1 : w3.cell? ⟨w2.heap.size, 1, none⟩ = some (.int .i64 0) := kept_ b3 (by simp [go_sem]) (by simp)
      obtain ⟨B3, s3⟩ := step_ B2 b3
      have T3 := T2.on (((Below.refl _ _).alloc (Nat.le_refl _) _).trans (b3.mono (by simp)))
      clear B2 b3 T2
      go_wp2_with fail
      have B4 := B3.alloc B3.size (.cells #[.int .u32 0, .int .u16 0] 26)
      clear p0 p1 c1 c3 c5
      go_loopw [9, 66] (fun v si wr => ∃ z c : Int, ((z = 0 ∧ c = 0) ∨ (z = 1 ∧ c = 0) ∨ (z = 2 ∧ c = 0) ∨ (z = 3 ∧ c = 0)) ∧ si = .int .i64 z ∧ v = .int .i64 c ∧ Below w.heap.size w wr) (fun _ si _ => 3 - (intOf si).toNat)
      case atStart => exact ⟨0, 0, by omega, rfl, rfl, B4⟩
      case round =>
        obtain ⟨z, c, hzc, rfl, rfl, B5⟩ := hrel
        clear B4
        rcases hzc with ⟨h, h'⟩ | ⟨h, h'⟩ | ⟨h, h'⟩ | ⟨h, h'⟩ <;> subst h <;> subst h'
        · go_wp2
          go_roundw
          case rel => exact ⟨1, 0, by omega, rfl, rfl, B5⟩
          case measure => simp [intOf]
        · go_wp2
          go_roundw
          case rel => exact ⟨2, 0, by omega, rfl, rfl, B5⟩
          case measure => simp [intOf]
        · go_wp2
          go_roundw
          case rel => exact ⟨3, 0, by omega, rfl, rfl, B5⟩
          case measure => simp [intOf]
        · go_wp2_with fail
          refine (named_ _).mono ?_; rintro e w6 ⟨rfl, b6⟩
          have B6 := B5.trans (b6.mono B5.size)
          clear B5 b6
          go_wp2
          go_ret
          exact ⟨rfl, B6⟩
    · rw [v1, v2] at c1
      rw [v3] at c3
      rw [v4, v5, v6] at c5
      try simp only [Int.ofNat_zero, Int.natCast_zero] at c1 c3 c5
      clear v1 v2 v3 v4 v5 v6 hl
      have j0 := ix0 false false false
      have j1 := ix1 false false false
      have j2 := ix2 false false false
      go_enter Tryd.func5, Tryd.ntmps5
      go_wp2_with fail
      refine (c1 _).mono ?_; rintro e w1 ⟨rfl, b1⟩
      have T1 := ht.on b1
      go_wp2_with fail
      refine (c3 _).mono ?_; rintro e w2 ⟨rfl, b2⟩
      have B2 := b1.trans (b2.mono b1.size)
      have T2 := T1.on b2
      clear b1 b2 T1
      go_wp2_with fail
      refine (c5 _).mono ?_; rintro e w3 ⟨rfl, b3⟩
      have p0 : w3.cell? ⟨w2.heap.size, 0, none⟩ = some (.int .u32 0) := kept_ b3 (by simp [go_sem]) (by simp)
      have p1 : w3.cell? ⟨w2.heap.size, 1, none⟩ = some (.int .i64 0) := kept_ b3 (by simp [go_sem]) (by simp)
      obtain ⟨B3, s3⟩ := step_ B2 b3
      have T3 := T2.on (((Below.refl _ _).alloc (Nat.le_refl _) _).trans (b3.mono (by simp)))
      clear B2 b3 T2
      go_wp2_with fail
      have B4 := B3.alloc B3.size (.cells #[.int .u32 0, .int .u16 0] 26)
      clear p0 p1 c1 c3 c5
      go_loopw [9, 66] (fun v si wr => ∃ z c : Int, ((z = 0 ∧ c = 0) ∨ (z = 1 ∧ c = 0) ∨ (z = 2 ∧ c = 0) ∨ (z = 3 ∧ c = 0)) ∧ si = .int .i64 z ∧ v = .int .i64 c ∧ Below w.heap.size w wr) (fun _ si _ => 3 - (intOf si).toNat)
      case atStart => exact ⟨0, 0, by omega, rfl, rfl, B4⟩
      case round =>
        obtain ⟨z, c, hzc, rfl, rfl, B5⟩ := hrel
        clear B4
        rcases hzc with ⟨h, h'⟩ | ⟨h, h'⟩ | ⟨h, h'⟩ | ⟨h, h'⟩ <;> subst h <;> subst h'
        · go_wp2
          go_roundw
          case rel => exact ⟨1, 0, by omega, rfl, rfl, B5⟩
          case measure => simp [intOf]
        · go_wp2
          go_roundw
          case rel => exact ⟨2, 0, by omega, rfl, rfl, B5⟩
          case measure => simp [intOf]
        · go_wp2
          go_roundw
          case rel => exact ⟨3, 0, by omega, rfl, rfl, B5⟩
          case measure => simp [intOf]
        · go_wp2_with fail
          refine (named_ _).mono ?_; rintro e w6 ⟨rfl, b6⟩
          have B6 := B5.trans (b6.mono B5.size)
          clear B5 b6
          go_wp2
          go_ret
          exact ⟨rfl, B6⟩
end Go.Proofs.YtaaobacmlaaajaaDoor.AddrsForm
