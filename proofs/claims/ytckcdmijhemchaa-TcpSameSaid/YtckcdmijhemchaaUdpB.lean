/- Contracts of the document's answers for layer 5: Put, Pseudo, Check, Seal. -/
import Derived.Test.YtckcdmijhemchaaUdpA
namespace Go.Proofs.Ytckcdmijhemchaa
set_option linter.unusedVariables false
set_option linter.unusedSimpArgs false
open Go.ChangeShapes Go.WideShapes Go.ChangeAt Go.RowKit Go.PlainAid
attribute [local go_sem ↓] Go.wp_at_zero Go.wp_at_succ
theorem row2 {k : IntKind} {w : World} {b : Nat} {x y : Int} (hb : b < w.heap.size) (h0 : w.cell? ⟨b, 0, none⟩ = some (.int k x)) (h1 : w.cell? ⟨b, 1, none⟩ = some (.int k y)) : Row k w (some ⟨b, 0, none⟩) 2 [x, y] :=
  ⟨rfl, .inr ⟨b, 0, rfl, hb, by
    intro t ht
    match t, ht with
    | 0, _ => simpa using h0
    | 1, _ => simpa using h1⟩⟩
theorem row4 {k : IntKind} {w : World} {b : Nat} {x y z t : Int} (hb : b < w.heap.size) (h0 : w.cell? ⟨b, 0, none⟩ = some (.int k x)) (h1 : w.cell? ⟨b, 1, none⟩ = some (.int k y)) (h2 : w.cell? ⟨b, 2, none⟩ = some (.int k z)) (h3 : w.cell? ⟨b, 3, none⟩ = some (.int k t)) : Row k w (some ⟨b, 0, none⟩) 4 [x, y, z, t] :=
  ⟨rfl, .inr ⟨b, 0, rfl, hb, by
    intro t ht
    match t, ht with
    | 0, _ => simpa using h0
    | 1, _ => simpa using h1
    | 2, _ => simpa using h2
    | 3, _ => simpa using h3⟩⟩
set_option maxHeartbeats 1000000 in
set_option maxRecDepth 100000 in
theorem pseudo5_ (a b pr n : Int) (w : World) (a0 : 0 ≤ a) (a1 : a ≤ 4294967295) (b0 : 0 ≤ b) (b1 : b ≤ 4294967295) (p0 : 0 ≤ pr) (p1 : pr ≤ 255) (n0 : 0 ≤ n) (n1 : n ≤ 1000000) :
    Calls Try.prog 28 #[.int .u32 a, .int .u32 b, .int .u8 pr, .int .i64 n] w fun e w' => e = .returned (.string (pseuB a b pr n)) ∧ Below w.heap.size w w' := by
  obtain ⟨z, hz⟩ : ∃ z : Int, z = n % 65536 := ⟨_, rfl⟩
  have z0 : 0 ≤ z := by omega
  have z1 : z ≤ 65535 := by omega
  have HV : Hid (strOfNums (wordL [a / 65536, a % 65536]) ++ strOfNums (wordL [b / 65536, b % 65536]) ++ strOfNums (wordL [pr, z]) = pseuB a b pr n) := by
    show _ = _
    unfold pseuB
    rw [strOfNums_append, strOfNums_append, hz]
    rfl
  have e1 : n % 65536 = z := hz.symm
  have e2 : n.tmod 65536 = z := by rw [Int.tmod_eq_emod_of_nonneg n0]; exact e1
  have ca := fun u => rput32 a u a0 a1
  have cb := fun u => rput32 b u b0 b1
  have cw : ∀ u (k : Nat), k < u.heap.size → u.cell? ⟨k, 0, none⟩ = some (.int .u16 pr) → u.cell? ⟨k, 1, none⟩ = some (.int .u16 z) → Calls Try.prog 23 #[.slice (some ⟨k, 0, none⟩) 2 2] u fun e w' => e = .returned (.string (strOfNums (wordL [pr, z]))) ∧ Below u.heap.size u w' :=
    fun u k hk h0 h1 => rword_any _ 2 2 [pr, z] u (row2 hk h0 h1) (by omega) (by intro x hx; simp at hx; omega)
  have z1' : (strOfNums (wordL [a / 65536, a % 65536])).size = 4 := by rw [size_W]; rfl
  have z2' : (strOfNums (wordL [b / 65536, b % 65536])).size = 4 := by rw [size_W]; rfl
  have z3' : (strOfNums (wordL [pr, z])).size = 4 := by rw [size_W]; rfl
  generalize strOfNums (wordL [a / 65536, a % 65536]) = U1 at *
  generalize strOfNums (wordL [b / 65536, b % 65536]) = U2 at *
  generalize strOfNums (wordL [pr, z]) = U3 at *
  have q1 : U1.size + U2.size ≤ 9223372036854775807 := by omega
  have q2 : U1.size + U2.size + U3.size ≤ 9223372036854775807 := by omega
  clear hz z1' z2' z3'
  go_enter Try.func28, Try.ntmps28
  go_wp2_with fail
  refine (ca _).mono ?_; rintro e w1 ⟨rfl, b1⟩
  go_wp2_with fail
  refine (cb _).mono ?_; rintro e w2 ⟨rfl, b2⟩
  have B2 := b1.trans (b2.mono b1.size)
  clear b1 b2 ca cb
  go_wp2_with fail
  refine (cw _ _ (by simp) (by simp [go_sem]) (by simp [go_sem])).mono ?_; rintro e w3 ⟨rfl, b3⟩
  have B3 : Below w.heap.size w w3 := (B2.alloc B2.size _).trans (b3.mono (by have := B2.size; simp; omega))
  clear b3 B2 cw
  go_wp2
  go_ret
  rw [HV.out]
  exact ⟨rfl, B3⟩
end Go.Proofs.Ytckcdmijhemchaa
