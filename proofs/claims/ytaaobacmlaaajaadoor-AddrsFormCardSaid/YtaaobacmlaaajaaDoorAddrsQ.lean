/- Contracts: endpoints and prefixes told; the document's Has; which endpoint is less. -/
import Derived.Test.YtaaobacmlaaajaaDoorAddrsO
import Derived.Test.YtaaobacmlaaajaaDoorAddrsG
import Derived.Test.YtaaobacmlaaajaaDoorAddrsN
namespace Go.Proofs.YtaaobacmlaaajaaDoor
set_option linter.unusedVariables false
set_option linter.unusedSimpArgs false
open Go.ChangeShapes Go.WideShapes Go.ChangeAt Go.RowKit Go.PlainAid
/-- An endpoint's text; a prefix's text (no bytes, if it may not be). -/
def pointL (a n : Nat) : List UInt8 := textL a ++ 58 :: Lib.decDigits n
def prefL (a : Nat) (b : Int) : List UInt8 := if mayV a b then textL a ++ 47 :: Lib.decDigits b.toNat else []
set_option maxHeartbeats 2000000 in
set_option maxRecDepth 100000 in
theorem pointText_ (a n : Nat) (w : World) (ha : a < 4294967296) (hn : n ≤ 65535) (ht : Tab w) :
    Calls Tryd.prog 8 #[.agg #[.int .u32 (a : Int), .int .u16 (n : Int)]] w fun e w' => e = .returned (.string (str (pointL a n))) ∧ Below w.heap.size w w' := by
  obtain ⟨w1, hw1⟩ : ∃ w1, w1 = w.alloc (.cells #[.int .u32 (a : Int), .int .u16 (n : Int)] 26) := ⟨_, rfl⟩
  have B1 : Below w.heap.size w w1 := by rw [hw1]; exact (Below.refl _ _).alloc (Nat.le_refl _) _
  have s1 : w.heap.size < w1.heap.size := by rw [hw1]; simp
  have c0 : w1.cell? ⟨w.heap.size, 0, none⟩ = some (.int .u32 (a : Int)) := by rw [hw1]; simp
  have c1 : w1.cell? ⟨w.heap.size, 1, none⟩ = some (.int .u16 (n : Int)) := by rw [hw1]; simp
  have HW := Lib.hid hw1
  clear hw1
  have T1 : Tab w1 := ht.on B1
  have k1 : ∀ q : Later w1.heap.size w1, Calls Tryd.prog 6 #[.int .u32 (a : Int)] q.u fun e w' => e = .returned (.string (str (textL a))) ∧ Below q.u.heap.size q.u w' := fun q => text_ a q.u ha (T1.on q.h)
  have k2 : ∀ q : Later w1.heap.size w1, Calls Tryd.prog 25 #[.int .i64 (n : Int)] q.u fun e w' => e = .returned (.string (str (Lib.decDigits n))) ∧ Below q.u.heap.size q.u w' := fun q => itoa_ n q.u (by omega) (T1.on q.h)
  have hl1 := textL_len a ha
  have hl2 := dec_len n
  have HN : Hid (∀ s1 s2, s1 = str (textL a) → s2 = str (Lib.decDigits n) → s1 ++ ⟨#[58]⟩ ++ s2 = str (pointL a n)) := by
    rintro s1 s2 rfl rfl
    have e : str (textL a) ++ ⟨#[58]⟩ = str (textL a ++ [58]) := str_app _ [58]
    rw [e, str_app]
    simp [pointL]
  rw [← str_size] at hl1 hl2
  obtain ⟨t1, e1⟩ : ∃ s, s = str (textL a) := ⟨_, rfl⟩
  obtain ⟨t2, e2⟩ : ∃ s, s = str (Lib.decDigits n) := ⟨_, rfl⟩
  rw [← e1] at k1 hl1
  rw [← e2] at k2 hl2
  have HV := Lib.hid (HN.out t1 t2 e1 e2)
  have z1 : t1.size + 1 ≤ 9223372036854775807 := by omega
  have z2 : t1.size + 1 + t2.size ≤ 9223372036854775807 := by omega
  clear e1 e2 HN hl1 hl2
  have x1 : IntKind.i64.wrap (n : Int) = (n : Int) := IntWalk.i64_in _ (by omega)
  have d0 : ∀ q : Later w1.heap.size w1, q.u.cell? ⟨w.heap.size, 0, none⟩ = some (.int .u32 (a : Int)) := fun q => q.block s1 c0
  have d1 : ∀ q : Later w1.heap.size w1, q.u.cell? ⟨w.heap.size, 1, none⟩ = some (.int .u16 (n : Int)) := fun q => q.block s1 c1
  clear c0 c1
  go_enter Tryd.func8, Tryd.ntmps8
  go_wp2_with fail
  rw [← HW.out]
  refine region_later (B := w1.heap.size) (by kernel_rfl) (by kernel_rfl) ?_
  repeat (go_big_quiet_step (first
    | (go_at_call 6; exact later_of _ (Nat.le_refl _) (k1 _))
    | (go_at_call 25; exact later_of _ (Nat.le_refl _) (k2 _))))
  refine later_end fun w2 b2 => ?_
  have B2 := B1.trans (b2.mono B1.size)
  clear d0 d1 b2
  go_wp2
  go_ret
  rw [← HV.out]
  exact ⟨rfl, B2⟩
set_option maxHeartbeats 2000000 in
set_option maxRecDepth 100000 in
theorem rpointText_ (a n : Nat) (w : World) (ha : a < 4294967296) (hn : n ≤ 65535) :
    Calls Tryd.prog 9 #[.agg #[.int .u32 (a : Int), .int .u16 (n : Int)]] w fun e w' => e = .returned (.string (str (pointL a n))) ∧ Below w.heap.size w w' := by
  obtain ⟨w1, hw1⟩ : ∃ w1, w1 = w.alloc (.cells #[.int .u32 (a : Int), .int .u16 (n : Int)] 26) := ⟨_, rfl⟩
  have B1 : Below w.heap.size w w1 := by rw [hw1]; exact (Below.refl _ _).alloc (Nat.le_refl _) _
  have s1 : w.heap.size < w1.heap.size := by rw [hw1]; simp
  have c0 : w1.cell? ⟨w.heap.size, 0, none⟩ = some (.int .u32 (a : Int)) := by rw [hw1]; simp
  have c1 : w1.cell? ⟨w.heap.size, 1, none⟩ = some (.int .u16 (n : Int)) := by rw [hw1]; simp
  have HW := Lib.hid hw1
  clear hw1
  have k1 : ∀ q : Later w1.heap.size w1, Calls Tryd.prog 7 #[.int .u32 (a : Int)] q.u fun e w' => e = .returned (.string (str (textL a))) ∧ Below q.u.heap.size q.u w' := fun q => rtext_ a q.u ha
  have k2 : ∀ q : Later w1.heap.size w1, Calls Tryd.prog 24 #[.int .u32 (n : Int)] q.u fun e w' => e = .returned (.string (str (Lib.decDigits n))) ∧ Below q.u.heap.size q.u w' := fun q => digits_ n q.u (by omega)
  have hl1 := textL_len a ha
  have hl2 := dec_len n
  have HN : Hid (∀ s1 s2, s1 = str (textL a) → s2 = str (Lib.decDigits n) → s1 ++ ⟨#[58]⟩ ++ s2 = str (pointL a n)) := by
    rintro s1 s2 rfl rfl
    have e : str (textL a) ++ ⟨#[58]⟩ = str (textL a ++ [58]) := str_app _ [58]
    rw [e, str_app]
    simp [pointL]
  rw [← str_size] at hl1 hl2
  obtain ⟨t1, e1⟩ : ∃ s, s = str (textL a) := ⟨_, rfl⟩
  obtain ⟨t2, e2⟩ : ∃ s, s = str (Lib.decDigits n) := ⟨_, rfl⟩
  rw [← e1] at k1 hl1
  rw [← e2] at k2 hl2
  have HV := Lib.hid (HN.out t1 t2 e1 e2)
  have z1 : t1.size + 1 ≤ 9223372036854775807 := by omega
  have z2 : t1.size + 1 + t2.size ≤ 9223372036854775807 := by omega
  clear e1 e2 HN hl1 hl2
  have x1 : IntKind.u32.wrap (n : Int) = (n : Int) := IntWalk.u32_in _ (by omega)
  have d0 : ∀ q : Later w1.heap.size w1, q.u.cell? ⟨w.heap.size, 0, none⟩ = some (.int .u32 (a : Int)) := fun q => q.block s1 c0
  have d1 : ∀ q : Later w1.heap.size w1, q.u.cell? ⟨w.heap.size, 1, none⟩ = some (.int .u16 (n : Int)) := fun q => q.block s1 c1
  clear c0 c1
  go_enter Tryd.func9, Tryd.ntmps9
  go_wp2_with fail
  rw [← HW.out]
  refine region_later (B := w1.heap.size) (by kernel_rfl) (by kernel_rfl) ?_
  repeat (go_big_quiet_step (first
    | (go_at_call 7; exact later_of _ (Nat.le_refl _) (k1 _))
    | (go_at_call 24; exact later_of _ (Nat.le_refl _) (k2 _))))
  refine later_end fun w2 b2 => ?_
  have B2 := B1.trans (b2.mono B1.size)
  clear d0 d1 b2
  go_wp2
  go_ret
  rw [← HV.out]
  exact ⟨rfl, B2⟩
set_option maxHeartbeats 2000000 in
set_option maxRecDepth 100000 in
theorem prefText_ (a : Nat) (b : Int) (w : World) (ha : a < 4294967296) (hb : -9223372036854775808 ≤ b ∧ b ≤ 9223372036854775807) (ht : Tab w) :
    Calls Tryd.prog 10 #[.agg #[.int .u32 (a : Int), .int .i64 b]] w fun e w' => e = .returned (.string (str (prefL a b))) ∧ Below w.heap.size w w' := by
  obtain ⟨w1, hw1⟩ : ∃ w1, w1 = w.alloc (.cells #[.int .u32 (a : Int), .int .i64 b] 28) := ⟨_, rfl⟩
  have B1 : Below w.heap.size w w1 := by rw [hw1]; exact (Below.refl _ _).alloc (Nat.le_refl _) _
  have s1 : w.heap.size < w1.heap.size := by rw [hw1]; simp
  have c0 : w1.cell? ⟨w.heap.size, 0, none⟩ = some (.int .u32 (a : Int)) := by rw [hw1]; simp
  have c1 : w1.cell? ⟨w.heap.size, 1, none⟩ = some (.int .i64 b) := by rw [hw1]; simp
  have HW := Lib.hid hw1
  clear hw1
  have km := fun u => may_ a b u ha hb
  by_cases hm : mayV a b = true
  rotate_left
  · have hm : mayV a b = false := by simpa using hm
    have HP : Hid (prefL a b = []) := by show _ = _; unfold prefL; rw [hm]; rfl
    rw [hm] at km
    clear hm hb
    go_enter Tryd.func10, Tryd.ntmps10
    go_wp2_with fail
    rw [← HW.out]
    refine (km _).mono ?_; rintro e w2 ⟨rfl, b2⟩
    have B2 := B1.trans (b2.mono B1.size)
    clear B1 b2 c0 c1
    go_wp2
    go_ret
    rw [HP.out]
    exact ⟨rfl, B2⟩
  have hbn : 0 ≤ b ∧ b ≤ 32 := by simp [mayV] at hm; omega
  obtain ⟨n, rfl⟩ : ∃ n : Nat, b = (n : Int) := ⟨b.toNat, by omega⟩
  have hn : n ≤ 32 := by omega
  have HP : Hid (prefL a (n : Int) = textL a ++ 47 :: Lib.decDigits n) := by show _ = _; unfold prefL; rw [if_pos hm]; simp
  rw [hm] at km
  clear hm hb hbn
  have T1 : Tab w1 := ht.on B1
  have k1 : ∀ u, Tab u → Calls Tryd.prog 6 #[.int .u32 (a : Int)] u fun e w' => e = .returned (.string (str (textL a))) ∧ Below u.heap.size u w' := fun u hu => text_ a u ha hu
  have k2 : ∀ u, Tab u → Calls Tryd.prog 25 #[.int .i64 (n : Int)] u fun e w' => e = .returned (.string (str (Lib.decDigits n))) ∧ Below u.heap.size u w' := fun u hu => itoa_ n u (by omega) hu
  have hl1 := textL_len a ha
  have hl2 := dec_len n
  have HN : Hid (∀ s1 s2, s1 = str (textL a) → s2 = str (Lib.decDigits n) → s1 ++ ⟨#[47]⟩ ++ s2 = str (textL a ++ 47 :: Lib.decDigits n)) := by
    rintro s1 s2 rfl rfl
    have e : str (textL a) ++ ⟨#[47]⟩ = str (textL a ++ [47]) := str_app _ [47]
    rw [e, str_app]
    simp
  rw [← str_size] at hl1 hl2
  obtain ⟨t1, e1⟩ : ∃ s, s = str (textL a) := ⟨_, rfl⟩
  obtain ⟨t2, e2⟩ : ∃ s, s = str (Lib.decDigits n) := ⟨_, rfl⟩
  rw [← e1] at k1 hl1
  rw [← e2] at k2 hl2
  have HV := Lib.hid (HN.out t1 t2 e1 e2)
  have z1 : t1.size + 1 ≤ 9223372036854775807 := by omega
  have z2 : t1.size + 1 + t2.size ≤ 9223372036854775807 := by omega
  clear e1 e2 HN hl1 hl2
  go_enter Tryd.func10, Tryd.ntmps10
  go_wp2_with fail
  rw [← HW.out]
  refine (km _).mono ?_; rintro e w2 ⟨rfl, b2⟩
  have c0 := kept_ b2 c0 s1
  have c1 := kept_ b2 c1 s1
  have s2 := Nat.lt_of_lt_of_le s1 b2.size
  have B2 := B1.trans (b2.mono B1.size)
  have T2 : Tab w2 := T1.on b2
  clear B1 b2 km
  have d0 : ∀ q : Later w2.heap.size w2, q.u.cell? ⟨w.heap.size, 0, none⟩ = some (.int .u32 (a : Int)) := fun q => q.block s2 c0
  have d1 : ∀ q : Later w2.heap.size w2, q.u.cell? ⟨w.heap.size, 1, none⟩ = some (.int .i64 (n : Int)) := fun q => q.block s2 c1
  clear c0 c1
  go_wp2_with fail
  refine region_later (B := w2.heap.size) (by kernel_rfl) (by kernel_rfl) ?_
  repeat (go_big_quiet_step (first
    | (go_at_call 6; exact later_of _ (Nat.le_refl _) (k1 _ (T2.on (Later.h _))))
    | (go_at_call 25; exact later_of _ (Nat.le_refl _) (k2 _ (T2.on (Later.h _))))))
  refine later_end fun w3 b3 => ?_
  have B3 := B2.trans (b3.mono B2.size)
  clear d0 d1 b3
  go_wp2
  go_ret
  rw [HP.out, ← HV.out]
  exact ⟨rfl, B3⟩
set_option maxHeartbeats 2000000 in
set_option maxRecDepth 100000 in
theorem rprefText_ (a : Nat) (b : Int) (w : World) (ha : a < 4294967296) (hb : -9223372036854775808 ≤ b ∧ b ≤ 9223372036854775807) :
    Calls Tryd.prog 11 #[.agg #[.int .u32 (a : Int), .int .i64 b]] w fun e w' => e = .returned (.string (str (prefL a b))) ∧ Below w.heap.size w w' := by
  obtain ⟨w1, hw1⟩ : ∃ w1, w1 = w.alloc (.cells #[.int .u32 (a : Int), .int .i64 b] 28) := ⟨_, rfl⟩
  have B1 : Below w.heap.size w w1 := by rw [hw1]; exact (Below.refl _ _).alloc (Nat.le_refl _) _
  have s1 : w.heap.size < w1.heap.size := by rw [hw1]; simp
  have c0 : w1.cell? ⟨w.heap.size, 0, none⟩ = some (.int .u32 (a : Int)) := by rw [hw1]; simp
  have c1 : w1.cell? ⟨w.heap.size, 1, none⟩ = some (.int .i64 b) := by rw [hw1]; simp
  have HW := Lib.hid hw1
  clear hw1
  have km := fun u => rmay_ a b u ha hb
  by_cases hm : mayV a b = true
  rotate_left
  · have hm : mayV a b = false := by simpa using hm
    have HP : Hid (prefL a b = []) := by show _ = _; unfold prefL; rw [hm]; rfl
    rw [hm] at km
    clear hm hb
    go_enter Tryd.func11, Tryd.ntmps11
    go_wp2_with fail
    rw [← HW.out]
    refine (km _).mono ?_; rintro e w2 ⟨rfl, b2⟩
    have B2 := B1.trans (b2.mono B1.size)
    clear B1 b2 c0 c1
    go_wp2
    go_ret
    rw [HP.out]
    exact ⟨rfl, B2⟩
  have hbn : 0 ≤ b ∧ b ≤ 32 := by simp [mayV] at hm; omega
  obtain ⟨n, rfl⟩ : ∃ n : Nat, b = (n : Int) := ⟨b.toNat, by omega⟩
  have hn : n ≤ 32 := by omega
  have HP : Hid (prefL a (n : Int) = textL a ++ 47 :: Lib.decDigits n) := by show _ = _; unfold prefL; rw [if_pos hm]; simp
  rw [hm] at km
  clear hm hb hbn
  have k1 : ∀ u, Calls Tryd.prog 7 #[.int .u32 (a : Int)] u fun e w' => e = .returned (.string (str (textL a))) ∧ Below u.heap.size u w' := fun u => rtext_ a u ha
  have k2 : ∀ u, Calls Tryd.prog 24 #[.int .u32 (n : Int)] u fun e w' => e = .returned (.string (str (Lib.decDigits n))) ∧ Below u.heap.size u w' := fun u => digits_ n u (by omega)
  have hl1 := textL_len a ha
  have hl2 := dec_len n
  have HN : Hid (∀ s1 s2, s1 = str (textL a) → s2 = str (Lib.decDigits n) → s1 ++ ⟨#[47]⟩ ++ s2 = str (textL a ++ 47 :: Lib.decDigits n)) := by
    rintro s1 s2 rfl rfl
    have e : str (textL a) ++ ⟨#[47]⟩ = str (textL a ++ [47]) := str_app _ [47]
    rw [e, str_app]
    simp
  rw [← str_size] at hl1 hl2
  obtain ⟨t1, e1⟩ : ∃ s, s = str (textL a) := ⟨_, rfl⟩
  obtain ⟨t2, e2⟩ : ∃ s, s = str (Lib.decDigits n) := ⟨_, rfl⟩
  rw [← e1] at k1 hl1
  rw [← e2] at k2 hl2
  have HV := Lib.hid (HN.out t1 t2 e1 e2)
  have z1 : t1.size + 1 ≤ 9223372036854775807 := by omega
  have z2 : t1.size + 1 + t2.size ≤ 9223372036854775807 := by omega
  clear e1 e2 HN hl1 hl2
  have x1 : IntKind.u32.wrap (n : Int) = (n : Int) := IntWalk.u32_in _ (by omega)
  go_enter Tryd.func11, Tryd.ntmps11
  go_wp2_with fail
  rw [← HW.out]
  refine (km _).mono ?_; rintro e w2 ⟨rfl, b2⟩
  have c0 := kept_ b2 c0 s1
  have c1 := kept_ b2 c1 s1
  have s2 := Nat.lt_of_lt_of_le s1 b2.size
  have B2 := B1.trans (b2.mono B1.size)
  clear B1 b2 km
  have d0 : ∀ q : Later w2.heap.size w2, q.u.cell? ⟨w.heap.size, 0, none⟩ = some (.int .u32 (a : Int)) := fun q => q.block s2 c0
  have d1 : ∀ q : Later w2.heap.size w2, q.u.cell? ⟨w.heap.size, 1, none⟩ = some (.int .i64 (n : Int)) := fun q => q.block s2 c1
  clear c0 c1
  go_wp2_with fail
  refine region_later (B := w2.heap.size) (by kernel_rfl) (by kernel_rfl) ?_
  repeat (go_big_quiet_step (first
    | (go_at_call 7; exact later_of _ (Nat.le_refl _) (k1 _))
    | (go_at_call 24; exact later_of _ (Nat.le_refl _) (k2 _))))
  refine later_end fun w3 b3 => ?_
  have B3 := B2.trans (b3.mono B2.size)
  clear d0 d1 b3
  go_wp2
  go_ret
  rw [HP.out, ← HV.out]
  exact ⟨rfl, B3⟩
end Go.Proofs.YtaaobacmlaaajaaDoor
