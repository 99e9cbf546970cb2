/- Contracts of package tcp: head. -/
import Derived.Test.YtckcdmijhemchaaTcpK
import Derived.Test.YtckcdmijhemchaaBox10
namespace Go.Proofs.Ytckcdmijhemchaa
set_option linter.unusedVariables false
set_option linter.unusedSimpArgs false
open Go.ChangeShapes Go.WideShapes Go.ChangeAt Go.RowKit Go.PlainAid
attribute [local go_sem ↓] Go.wp_at_zero Go.wp_at_succ
theorem row5_ {k : IntKind} {w : World} {b : Nat} {x0 x1 x2 x3 x4 : Int} (hb : b < w.heap.size) (h0 : w.cell? ⟨b, 0, none⟩ = some (.int k x0)) (h1 : w.cell? ⟨b, 1, none⟩ = some (.int k x1)) (h2 : w.cell? ⟨b, 2, none⟩ = some (.int k x2)) (h3 : w.cell? ⟨b, 3, none⟩ = some (.int k x3)) (h4 : w.cell? ⟨b, 4, none⟩ = some (.int k x4)) : Row k w (some ⟨b, 0, none⟩) 5 [x0, x1, x2, x3, x4] :=
  ⟨rfl, .inr ⟨b, 0, rfl, hb, by
    intro t ht
    match t, ht with
    | 0, _ => simpa using h0
    | 1, _ => simpa using h1
    | 2, _ => simpa using h2
    | 3, _ => simpa using h3
    | 4, _ => simpa using h4⟩⟩
set_option maxHeartbeats 4000000 in
set_option maxRecDepth 100000 in
theorem tcpHead_ (sp dp sq ak lo fl wi su ur : Int) (o : ByteArray) (w : World) (a0 : 0 ≤ sp) (a1 : sp ≤ 65535) (b0 : 0 ≤ dp) (b1 : dp ≤ 65535) (c0 : 0 ≤ sq) (c1 : sq ≤ 4294967295) (d0 : 0 ≤ ak) (d1 : ak ≤ 4294967295) (e0 : 0 ≤ lo) (e1 : lo ≤ 15) (f0 : 0 ≤ fl) (f1 : fl ≤ 255)
    (g0 : 0 ≤ wi) (g1 : wi ≤ 65535) (h0 : 0 ≤ su) (h1 : su ≤ 65535) (i0 : 0 ≤ ur) (i1 : ur ≤ 65535) (ho : o.size ≤ 40) (ho4 : o.size % 4 = 0) :
    Calls Try.prog 22 #[.agg #[.int .u16 sp, .int .u16 dp, .int .u32 sq, .int .u32 ak, .int .u8 lo, .int .u8 fl, .int .u16 wi, .int .u16 su, .int .u16 ur, .string o]] w fun e w' => e = .returned (.string (strOfNums (wordL (tcpW sp dp sq ak lo fl wi su ur o.size)) ++ o)) ∧ Below w.heap.size w w' := by
  obtain ⟨n, hn⟩ : ∃ n, o.size = n := ⟨_, rfl⟩
  rw [hn] at ho ho4 ⊢
  obtain ⟨q, hq⟩ : ∃ q : Int, q = 5 + (n : Int) / 4 := ⟨_, rfl⟩
  have q0 : 0 ≤ q := by omega
  have q1 : q ≤ 15 := by omega
  obtain ⟨z, hz⟩ : ∃ z : Int, z = 20 + (n : Int) := ⟨_, rfl⟩
  have x1 : 20 + (n : Int) = z := hz.symm
  have x2 : z / 4 = q := by omega
  have x2' : z.tdiv 4 = q := by rw [Int.tdiv_eq_ediv_of_nonneg (by omega)]; exact x2
  have x2'' : IntKind.u16.wrap z = z := IntWalk.u16_in _ (by omega)
  have zb0 : 0 ≤ z := by omega
  have zb1 : z ≤ 60 := by omega
  have w1' : IntKind.u16.wrap q = q := IntWalk.u16_in _ (by omega)
  have w2' : IntKind.u16.wrap (q * 4096) = q * 4096 := IntWalk.u16_in _ (by omega)
  have w3' : IntKind.u16.wrap lo = lo := IntWalk.u16_in _ (by omega)
  have w4' : IntKind.u16.wrap (lo * 256) = lo * 256 := IntWalk.u16_in _ (by omega)
  have w5' : IntKind.u16.wrap fl = fl := IntWalk.u16_in _ (by omega)
  have x3 := u16_h12 q lo q0 q1 e0 e1
  have x5 := u16_hl (q * 16 + lo) fl (by omega) (by omega) f0 f1
  obtain ⟨g, hg⟩ : ∃ x : Int, x = (q * 16 + lo) * 256 + fl := ⟨_, rfl⟩
  rw [← hg] at x5
  have gb0 : 0 ≤ g := by omega
  have gb1 : g ≤ 65535 := by omega
  obtain ⟨p1, hp1⟩ : ∃ x : Int, x = sp * 65536 + dp := ⟨_, rfl⟩
  obtain ⟨p4, hp4⟩ : ∃ x : Int, x = g * 65536 + wi := ⟨_, rfl⟩
  obtain ⟨p5, hp5⟩ : ∃ x : Int, x = su * 65536 + ur := ⟨_, rfl⟩
  have HV : Hid (layB [p1, sq, ak, p4, p5] = strOfNums (wordL (tcpW sp dp sq ak lo fl wi su ur n))) := by
    show _ = _
    unfold layB tcpW
    simp only [pairsL, List.flatMap_cons, List.flatMap_nil, List.append_nil, List.cons_append, List.nil_append]
    rw [show p1 / 65536 = sp by omega, show p1 % 65536 = dp by omega, show p4 / 65536 = 256 * (80 + 4 * (n : Int) + lo) + fl by omega, show p4 % 65536 = wi by omega, show p5 / 65536 = su by omega, show p5 % 65536 = ur by omega]
  have cp1 := fun u => tcpPair_ sp dp u a0 a1 b0 b1
  have cp4 := fun u => tcpPair_ g wi u gb0 gb1 g0 g1
  have cp5 := fun u => tcpPair_ su ur u h0 h1 i0 i1
  rw [← hp1] at cp1
  rw [← hp4] at cp4
  rw [← hp5] at cp5
  have cl : ∀ (u : World) (k : Nat), k < u.heap.size → u.cell? ⟨k, 0, none⟩ = some (.int .u32 p1) → u.cell? ⟨k, 1, none⟩ = some (.int .u32 sq) → u.cell? ⟨k, 2, none⟩ = some (.int .u32 ak) → u.cell? ⟨k, 3, none⟩ = some (.int .u32 p4) → u.cell? ⟨k, 4, none⟩ = some (.int .u32 p5) → Calls Try.prog 45 #[.slice (some ⟨k, 0, none⟩) 5 5] u fun e w' => e = .returned (.string (layB [p1, sq, ak, p4, p5])) ∧ Below u.heap.size u w' :=
    fun u k hk h0 h1 h2 h3 h4 => tcpLay_ _ 5 5 [p1, sq, ak, p4, p5] u (row5_ hk h0 h1 h2 h3 h4) (by omega) (by intro x hx; simp at hx; omega)
  have zH := layB_size [p1, sq, ak, p4, p5]
  simp only [List.length_cons, List.length_nil] at zH
  generalize layB [p1, sq, ak, p4, p5] = H at *
  have y1 : ¬ 9223372036854775807 < H.size + n := by omega
  have gw := Lib.hid (show w.heap.size ≤ w.heap.size from Nat.le_refl _)
  clear hq hz hg hp1 hp4 hp5 zH
  go_enter Try.func22, Try.ntmps22
  go_wp2_with fail
  have A0 := Box10.make w (.int .u16 sp) (.int .u16 dp) (.int .u32 sq) (.int .u32 ak) (.int .u8 lo) (.int .u8 fl) (.int .u16 wi) (.int .u16 su) (.int .u16 ur) (.string o) 25
  have B0 : Below w.heap.size w (w.alloc (.cells #[.int .u16 sp, .int .u16 dp, .int .u32 sq, .int .u32 ak, .int .u8 lo, .int .u8 fl, .int .u16 wi, .int .u16 su, .int .u16 ur, .string o] 25)) := (Below.refl _ _).alloc (Nat.le_refl _) _
  obtain ⟨w1, hw1⟩ : ∃ x, x = w.alloc (.cells #[.int .u16 sp, .int .u16 dp, .int .u32 sq, .int .u32 ak, .int .u8 lo, .int .u8 fl, .int .u16 wi, .int .u16 su, .int .u16 ur, .string o] 25) := ⟨_, rfl⟩
  rw [← hw1] at A0 B0 ⊢
  clear hw1
  have MK := Lib.hid (show ∀ w', Below w1.heap.size w1 w' → w'.cell? ⟨w.heap.size, 0, none⟩ = some (.int .u16 sp) ∧ w'.cell? ⟨w.heap.size, 1, none⟩ = some (.int .u16 dp) ∧ w'.cell? ⟨w.heap.size, 2, none⟩ = some (.int .u32 sq) ∧ w'.cell? ⟨w.heap.size, 3, none⟩ = some (.int .u32 ak) ∧ w'.cell? ⟨w.heap.size, 4, none⟩ = some (.int .u8 lo) ∧ w'.cell? ⟨w.heap.size, 5, none⟩ = some (.int .u8 fl) ∧ w'.cell? ⟨w.heap.size, 6, none⟩ = some (.int .u16 wi) ∧ w'.cell? ⟨w.heap.size, 7, none⟩ = some (.int .u16 su) ∧ w'.cell? ⟨w.heap.size, 8, none⟩ = some (.int .u16 ur) ∧ w'.cell? ⟨w.heap.size, 9, none⟩ = some (.string o) ∧ Below w1.heap.size w1 w' from
    fun w' h => by obtain ⟨_, y0, y1, y2, y3, y4, y5, y6, y7, y8, y9⟩ := A0.on h; exact ⟨y0, y1, y2, y3, y4, y5, y6, y7, y8, y9, h⟩)
  go_region_held3 (fun w' => w'.cell? ⟨w.heap.size, 0, none⟩ = some (.int .u16 sp) ∧ w'.cell? ⟨w.heap.size, 1, none⟩ = some (.int .u16 dp) ∧ w'.cell? ⟨w.heap.size, 2, none⟩ = some (.int .u32 sq) ∧ w'.cell? ⟨w.heap.size, 3, none⟩ = some (.int .u32 ak) ∧ w'.cell? ⟨w.heap.size, 4, none⟩ = some (.int .u8 lo) ∧ w'.cell? ⟨w.heap.size, 5, none⟩ = some (.int .u8 fl) ∧ w'.cell? ⟨w.heap.size, 6, none⟩ = some (.int .u16 wi) ∧ w'.cell? ⟨w.heap.size, 7, none⟩ = some (.int .u16 su) ∧ w'.cell? ⟨w.heap.size, 8, none⟩ = some (.int .u16 ur) ∧ w'.cell? ⟨w.heap.size, 9, none⟩ = some (.string o) ∧ Below w1.heap.size w1 w')
    ((go_split_ands
      refine MK.out _ ?_
      repeat
        first
          | assumption
          | exact Below.refl _ _
          | refine Below.drew ?_
          | refine Below.alloc ?_ ?_ _
          | (refine Below.trans ?_ (hbw.mono ?_))
          | (refine Below.size (B := w1.heap.size) ?_
             assumption)
          | focus (simp; done)
          | focus (simp; omega)))
    ((first
      | (go_at_call_of 46 sp
         refine (cp1 _).mono ?_
         rintro e w2 ⟨rfl, rfl⟩)
      | (go_at_call_of 46 g
         refine (cp4 _).mono ?_
         rintro e w2 ⟨rfl, rfl⟩)
      | (go_at_call_of 46 su
         refine (cp5 _).mono ?_
         rintro e w2 ⟨rfl, rfl⟩)
      | (go_at_call 45
         refine (cl _ _ ?_ ?_ ?_ ?_ ?_ ?_).mono ?_
         · simp
         · simp [go_sem]
         · simp [go_sem]
         · simp [go_sem]
         · simp [go_sem]
         · simp [go_sem]
         rintro e w2 ⟨rfl, hbw⟩)))
  rename_i HH
  have b2 := HH.2.2.2.2.2.2.2.2.2.2
  have B2 := B0.trans (b2.mono B0.size)
  clear HH b2 MK A0 B0 cp1 cp4 cp5 cl
  go_wp2
  go_ret
  rw [HV.out]
  exact ⟨rfl, B2⟩
end Go.Proofs.Ytckcdmijhemchaa
