/- Contracts of the document's answers for layer 6: Put. -/
import Derived.Test.YtckcdmijhemchaaTcpB
namespace Go.Proofs.Ytckcdmijhemchaa
set_option linter.unusedVariables false
set_option linter.unusedSimpArgs false
open Go.ChangeShapes Go.WideShapes Go.ChangeAt Go.RowKit Go.PlainAid
attribute [local go_sem ↓] Go.wp_at_zero Go.wp_at_succ
def tPutB (sp dp sq ak lo fl wi su ur : Int) (o p : ByteArray) : ByteArray := if tE o.size lo = 0 then tcpB sp dp sq ak lo fl wi su ur o p else ⟨#[]⟩
theorem tcpB_parts (sp dp sq ak lo fl wi su ur : Int) (o p : ByteArray) (f0 : 0 ≤ fl) (f1 : fl ≤ 255) :
    strOfNums (wordL [sp, dp]) ++ strOfNums (wordL [sq / 65536, sq % 65536]) ++ strOfNums (wordL [ak / 65536, ak % 65536]) ++ strOfNums [80 + 4 * (o.size : Int) + lo, fl] ++ strOfNums (wordL [wi, su, ur]) ++ o ++ p = tcpB sp dp sq ak lo fl wi su ur o p := by
  unfold tcpB
  congr 2
  simp only [strOfNums_append]
  congr 1
  simp only [tcpW, wordL, List.flatMap_cons, List.flatMap_nil, List.append_nil, List.cons_append, List.nil_append]
  rw [show (256 * (80 + 4 * (o.size : Int) + lo) + fl) / 256 = 80 + 4 * (o.size : Int) + lo by omega, show (256 * (80 + 4 * (o.size : Int) + lo) + fl) % 256 = fl by omega]
theorem row3_ {k : IntKind} {w : World} {b : Nat} {x y z : Int} (hb : b < w.heap.size) (h0 : w.cell? ⟨b, 0, none⟩ = some (.int k x)) (h1 : w.cell? ⟨b, 1, none⟩ = some (.int k y)) (h2 : w.cell? ⟨b, 2, none⟩ = some (.int k z)) : Row k w (some ⟨b, 0, none⟩) 3 [x, y, z] :=
  ⟨rfl, .inr ⟨b, 0, rfl, hb, by
    intro t ht
    match t, ht with
    | 0, _ => simpa using h0
    | 1, _ => simpa using h1
    | 2, _ => simpa using h2⟩⟩
set_option maxHeartbeats 4000000 in
set_option maxRecDepth 100000 in
theorem rput6_ (sp dp sq ak lo fl wi su ur : Int) (o p : ByteArray) (w : World) (a0 : 0 ≤ sp) (a1 : sp ≤ 65535) (b0 : 0 ≤ dp) (b1 : dp ≤ 65535) (c0 : 0 ≤ sq) (c1 : sq ≤ 4294967295) (d0 : 0 ≤ ak) (d1 : ak ≤ 4294967295) (e0 : 0 ≤ lo) (e1 : lo ≤ 255) (f0 : 0 ≤ fl) (f1 : fl ≤ 255)
    (g0 : 0 ≤ wi) (g1 : wi ≤ 65535) (h0 : 0 ≤ su) (h1 : su ≤ 65535) (i0 : 0 ≤ ur) (i1 : ur ≤ 65535) (ho : o.size ≤ 1000000) (hp : p.size ≤ 1000000) :
    Calls Try.prog 12 #[.agg #[.int .u16 sp, .int .u16 dp, .int .u32 sq, .int .u32 ak, .int .u8 lo, .int .u8 fl, .int .u16 wi, .int .u16 su, .int .u16 ur, .string o], .string p] w fun e w' => e = .returned (.tuple #[.string (tPutB sp dp sq ak lo fl wi su ur o p), .int .i64 (tE o.size lo)]) ∧ Below w.heap.size w w' := by
  obtain ⟨n, hn⟩ : ∃ n, o.size = n := ⟨_, rfl⟩
  rw [hn] at ho
  by_cases hE : tE n lo = 0
  rotate_left
  · have hE2 : tE n lo = 2 := by unfold tE at hE ⊢; split <;> simp_all
    have HE : Hid (tE o.size lo = 2) := by show _ = _; rw [hn]; exact hE2
    have HB : Hid (tPutB sp dp sq ak lo fl wi su ur o p = ⟨#[]⟩) := by show _ = _; unfold tPutB; rw [HE.out]; rfl
    have key : ∃ x y z : Bool, decide ((40 : Int) < (n : Int)) = x ∧ decide ((0 : Int) < (n : Int) % 4) = y ∧ decide ((15 : Int) < lo) = z ∧ (x = true ∨ (x = false ∧ y = true) ∨ (x = false ∧ y = false ∧ z = true)) := by
      refine ⟨_, _, _, rfl, rfl, rfl, ?_⟩
      simp only [decide_eq_true_eq, decide_eq_false_iff_not]
      unfold tE at hE2
      split at hE2
      · omega
      · omega
    obtain ⟨x, y, z, k1, k2, k3, hk⟩ := key
    clear hE hE2
    rcases hk with rfl | ⟨rfl, rfl⟩ | ⟨rfl, rfl, rfl⟩
    all_goals
      go_enter Try.func12, Try.ntmps12
      go_wp2
      go_ret2
      rw [HE.out, HB.out]
      exact ⟨rfl, (Below.refl _ _).alloc (Nat.le_refl _) _⟩
  have hh : n ≤ 40 ∧ n % 4 = 0 ∧ lo ≤ 15 := by
    unfold tE at hE
    split at hE
    · omega
    · omega
  obtain ⟨j1, j2, j3⟩ := hh
  have HE : Hid (tE o.size lo = 0) := by show _ = _; rw [hn]; exact hE
  have HB : Hid (tPutB sp dp sq ak lo fl wi su ur o p = tcpB sp dp sq ak lo fl wi su ur o p) := by show _ = _; unfold tPutB; rw [HE.out, if_pos rfl]
  have HV := tcpB_parts sp dp sq ak lo fl wi su ur o p f0 f1
  have k1 : decide ((40 : Int) < (n : Int)) = false := by simp; omega
  have k2 : (n : Int) % 4 = 0 := by omega
  have k3 : decide ((15 : Int) < lo) = false := by simp; omega
  rw [hn] at HV
  obtain ⟨x, hx⟩ : ∃ x : Int, 80 + 4 * (n : Int) + lo = x := ⟨_, rfl⟩
  rw [hx] at HV
  have k4 : IntKind.u8.wrap (80 + 4 * (n : Int)) = 80 + 4 * (n : Int) := IntWalk.u8_in _ (by omega)
  have k5 : IntKind.u8.wrap x = x := IntWalk.u8_in _ (by omega)
  have ca : ∀ u (k : Nat), k < u.heap.size → u.cell? ⟨k, 0, none⟩ = some (.int .u16 sp) → u.cell? ⟨k, 1, none⟩ = some (.int .u16 dp) → Calls Try.prog 23 #[.slice (some ⟨k, 0, none⟩) 2 2] u fun e w' => e = .returned (.string (strOfNums (wordL [sp, dp]))) ∧ Below u.heap.size u w' :=
    fun u k hk h0 h1 => rword_any _ 2 2 [sp, dp] u (row2 hk h0 h1) (by omega) (by intro x hx; simp at hx; omega)
  have cw : ∀ u (k : Nat), k < u.heap.size → u.cell? ⟨k, 0, none⟩ = some (.int .u16 wi) → u.cell? ⟨k, 1, none⟩ = some (.int .u16 su) → u.cell? ⟨k, 2, none⟩ = some (.int .u16 ur) → Calls Try.prog 23 #[.slice (some ⟨k, 0, none⟩) 3 3] u fun e w' => e = .returned (.string (strOfNums (wordL [wi, su, ur]))) ∧ Below u.heap.size u w' :=
    fun u k hk h0 h1 h2 => rword_any _ 3 3 [wi, su, ur] u (row3_ hk h0 h1 h2) (by omega) (by intro x hx; simp at hx; omega)
  have cb := fun u => rput32 sq u c0 c1
  have cc := fun u => rput32 ak u d0 d1
  have cv := fun W : World => conv2 W W.heap.size x fl rfl
  have z1 : (strOfNums (wordL [sp, dp])).size = 4 := by rw [size_W]; rfl
  have z2 : (strOfNums (wordL [sq / 65536, sq % 65536])).size = 4 := by rw [size_W]; rfl
  have z3 : (strOfNums (wordL [ak / 65536, ak % 65536])).size = 4 := by rw [size_W]; rfl
  have z4 : (strOfNums [x, fl]).size = 2 := by rw [strOfNums_size]; rfl
  have z5 : (strOfNums (wordL [wi, su, ur])).size = 6 := by rw [size_W]; rfl
  generalize strOfNums (wordL [sp, dp]) = U1 at *
  generalize strOfNums (wordL [sq / 65536, sq % 65536]) = U2 at *
  generalize strOfNums (wordL [ak / 65536, ak % 65536]) = U3 at *
  generalize strOfNums [x, fl] = U4 at *
  generalize strOfNums (wordL [wi, su, ur]) = U5 at *
  obtain ⟨U, hU⟩ : ∃ U, U = U1 ++ U2 ++ U3 := ⟨_, rfl⟩
  obtain ⟨V, hV⟩ : ∃ V, V = U ++ U4 := ⟨_, rfl⟩
  have zU : U.size = 12 := by rw [hU, ByteArray.size_append, ByteArray.size_append]; omega
  have zV : V.size = 14 := by rw [hV, ByteArray.size_append]; omega
  have q1 : ¬ 9223372036854775807 < U1.size + U2.size := by omega
  have q2 : ¬ 9223372036854775807 < U1.size + U2.size + U3.size := by omega
  have q3 : U.size + U4.size ≤ 9223372036854775807 := by omega
  have q4 : ¬ 9223372036854775807 < V.size + U5.size := by omega
  have q5 : ¬ 9223372036854775807 < V.size + U5.size + n := by omega
  have q6 : ¬ 9223372036854775807 < V.size + U5.size + n + p.size := by omega
  have HV2 := Lib.hid HV
  have HU := Lib.hid hU
  have HV3 := Lib.hid hV
  clear HV hU hV z1 z2 z3 z4 z5 zU zV hE j1 j2 j3
  go_enter Try.func12, Try.ntmps12
  go_wp2_with fail
  have A0 := Box10.make w (.int .u16 sp) (.int .u16 dp) (.int .u32 sq) (.int .u32 ak) (.int .u8 lo) (.int .u8 fl) (.int .u16 wi) (.int .u16 su) (.int .u16 ur) (.string o) 29
  have B0 : Below w.heap.size w (w.alloc (.cells #[.int .u16 sp, .int .u16 dp, .int .u32 sq, .int .u32 ak, .int .u8 lo, .int .u8 fl, .int .u16 wi, .int .u16 su, .int .u16 ur, .string o] 29)) := (Below.refl _ _).alloc (Nat.le_refl _) _
  obtain ⟨w1, hw1⟩ : ∃ x, x = w.alloc (.cells #[.int .u16 sp, .int .u16 dp, .int .u32 sq, .int .u32 ak, .int .u8 lo, .int .u8 fl, .int .u16 wi, .int .u16 su, .int .u16 ur, .string o] 29) := ⟨_, rfl⟩
  rw [← hw1] at A0 B0 ⊢
  clear hw1
  have MK := Lib.hid (show ∀ w', Below w1.heap.size w1 w' → w'.cell? ⟨w.heap.size, 0, none⟩ = some (.int .u16 sp) ∧ w'.cell? ⟨w.heap.size, 1, none⟩ = some (.int .u16 dp) ∧ w'.cell? ⟨w.heap.size, 2, none⟩ = some (.int .u32 sq) ∧ w'.cell? ⟨w.heap.size, 3, none⟩ = some (.int .u32 ak) ∧ Below w1.heap.size w1 w' from
    fun w' h => by obtain ⟨_, y0, y1, y2, y3, _⟩ := A0.on h; exact ⟨y0, y1, y2, y3, h⟩)
  go_region_held3 (fun w' => w'.cell? ⟨w.heap.size, 0, none⟩ = some (.int .u16 sp) ∧ w'.cell? ⟨w.heap.size, 1, none⟩ = some (.int .u16 dp) ∧ w'.cell? ⟨w.heap.size, 2, none⟩ = some (.int .u32 sq) ∧ w'.cell? ⟨w.heap.size, 3, none⟩ = some (.int .u32 ak) ∧ Below w1.heap.size w1 w')
    ((go_split_ands
      refine MK.out _ ?_
      repeat
        first
          | assumption
          | exact Below.refl _ _
          | refine Below.drew ?_
          | refine Below.alloc ?_ ?_ _
          | (refine Below.trans ?_ (hbw.mono ?_))
          | (refine Below.size (B := w1.heap.size) ?_
             assumption)
          | focus (simp; done)
          | focus (simp; omega)))
    ((first
      | (go_at_call 23
         refine (ca _ _ ?_ ?_ ?_).mono ?_
         · simp
         · simp [go_sem]
         · simp [go_sem]
         rintro e w2 ⟨rfl, hbw⟩)
      | (go_at_call_of 24 sq
         refine (cb _).mono ?_
         rintro e w2 ⟨rfl, hbw⟩)
      | (go_at_call_of 24 ak
         refine (cc _).mono ?_
         rintro e w2 ⟨rfl, hbw⟩)))
  rename_i HH
  have b2 := HH.2.2.2.2
  have A2 := A0.on b2
  have B2 := B0.trans (b2.mono B0.size)
  clear HH b2 MK A0 B0 ca cb cc q1 q2
  rw [← HU.out]
  have cv2 := cv w2
  obtain ⟨_, y0, y1, y2, y3, y4, y5, y6, y7, y8, y9⟩ := id A2
  go_wp2_with fail
  clear y0 y1 y2 y3 y4 y5 y6 y7 y8 y9 cv cv2
  rw [← HV3.out]
  have A3 := A2.past (o := .cells #[.int .u8 x, .int .u8 fl] 5)
  have B3 := B2.alloc B2.size (.cells #[.int .u8 x, .int .u8 fl] 5)
  obtain ⟨w3, hw3⟩ : ∃ y, y = w2.alloc (.cells #[.int .u8 x, .int .u8 fl] 5) := ⟨_, rfl⟩
  rw [← hw3] at A3 B3 ⊢
  clear hw3 A2 B2
  have MK := Lib.hid (show ∀ w', Below w3.heap.size w3 w' → w'.cell? ⟨w.heap.size, 6, none⟩ = some (.int .u16 wi) ∧ w'.cell? ⟨w.heap.size, 7, none⟩ = some (.int .u16 su) ∧ w'.cell? ⟨w.heap.size, 8, none⟩ = some (.int .u16 ur) ∧ w'.cell? ⟨w.heap.size, 9, none⟩ = some (.string o) ∧ Below w3.heap.size w3 w' from
    fun w' h => by obtain ⟨_, y0, y1, y2, y3, y4, y5, y6, y7, y8, y9⟩ := A3.on h; exact ⟨y6, y7, y8, y9, h⟩)
  go_region_held3 (fun w' => w'.cell? ⟨w.heap.size, 6, none⟩ = some (.int .u16 wi) ∧ w'.cell? ⟨w.heap.size, 7, none⟩ = some (.int .u16 su) ∧ w'.cell? ⟨w.heap.size, 8, none⟩ = some (.int .u16 ur) ∧ w'.cell? ⟨w.heap.size, 9, none⟩ = some (.string o) ∧ Below w3.heap.size w3 w')
    ((go_split_ands
      refine MK.out _ ?_
      repeat
        first
          | assumption
          | exact Below.refl _ _
          | refine Below.drew ?_
          | refine Below.alloc ?_ ?_ _
          | (refine Below.trans ?_ (hbw.mono ?_))
          | (refine Below.size (B := w3.heap.size) ?_
             assumption)
          | focus (simp; done)
          | focus (simp; omega)))
    ((first
      | (go_at_call 23
         refine (cw _ _ ?_ ?_ ?_ ?_).mono ?_
         · simp
         · simp [go_sem]
         · simp [go_sem]
         · simp [go_sem]
         rintro e w4 ⟨rfl, hbw⟩)))
  rename_i HH
  have B4 := B3.trans (HH.2.2.2.2.mono B3.size)
  clear HH MK A3 B3 cw
  go_wp2
  go_ret2
  rw [HE.out, HB.out, ← HV2.out, ← HU.out, ← HV3.out]
  exact ⟨rfl, B4⟩
end Go.Proofs.Ytckcdmijhemchaa
