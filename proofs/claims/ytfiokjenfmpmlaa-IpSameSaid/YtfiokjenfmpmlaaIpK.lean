/- Contracts of package ip: seal, Put. -/
import Derived.Test.YtfiokjenfmpmlaaIpJ
namespace Go.Proofs.Ytfiokjenfmpmlaa
set_option linter.unusedVariables false
set_option linter.unusedSimpArgs false
open Go.ChangeShapes Go.WideShapes Go.ChangeAt Go.RowKit Go.PlainAid
attribute [local go_sem ↓] Go.wp_at_zero Go.wp_at_succ
set_option maxHeartbeats 4000000 in
set_option maxRecDepth 100000 in
theorem seal_ (a id : Int) (fl : Bool) (tt pr sr ds : Int) (o : ByteArray) (size : Int) (w : World) (a0 : 0 ≤ a) (a1 : a ≤ 255) (i0 : 0 ≤ id) (i1 : id ≤ 65535) (t0 : 0 ≤ tt) (t1 : tt ≤ 255) (p0 : 0 ≤ pr) (p1 : pr ≤ 255)
    (s0 : 0 ≤ sr) (s1 : sr ≤ 4294967295) (d0 : 0 ≤ ds) (d1 : ds ≤ 4294967295) (ho : o.size ≤ 40) (z0 : 0 ≤ size) (z1 : size ≤ 65535) :
    Calls Try.prog 22 #[.agg #[.int .u8 a, .int .u16 id, .bool fl, .int .u8 tt, .int .u8 pr, .int .u32 sr, .int .u32 ds, .string o], .int .i64 size] w fun e w' => e = .returned (.agg #[.int .u8 a, .int .u16 id, .bool fl, .int .u8 tt, .int .u8 pr, .int .u32 sr, .int .u32 ds, .string o, .int .u16 size, .int .u16 (sumV [hdrB a id fl tt pr sr ds o size 0])]) ∧ Below w.heap.size w w' := by
  have cby := fun u => bytes_ a id fl tt pr sr ds o size 0 u a0 a1 i0 i1 t0 t1 p0 p1 s0 s1 d0 d1 ho z0 z1 (by omega) (by omega)
  have hs1 := hdrB_size a id fl tt pr sr ds o size 0
  obtain ⟨H1, hH1⟩ : ∃ h, h = hdrB a id fl tt pr sr ds o size 0 := ⟨_, rfl⟩
  rw [← hH1] at cby hs1 ⊢
  clear hH1
  have csum : ∀ (u : World) (b : Nat), b < u.heap.size → u.cell? ⟨b, 0, none⟩ = some (.string H1) → Calls Try.prog 26 #[.slice (some ⟨b, 0, none⟩) 1 1] u fun e w' => e = .returned (.int .u16 (sumV [H1])) ∧ Below u.heap.size u w' :=
    fun u b hb h0 => sum_ _ 1 1 [H1] u (rowS1 hb h0 (by unfold maxLen; omega))
  generalize sumV [H1] = sm at *
  have wz : IntKind.u16.wrap size = size := IntWalk.u16_in _ (by omega)
  clear hs1
  go_enter Try.func22, Try.ntmps22
  go_wp2_with fail
  refine (cby _).mono ?_; rintro e w2 ⟨rfl, b2⟩
  have g0 : w2.cell? ⟨w.heap.size + 1 + 1, 0, none⟩ = some (.int .u8 a) := kept_ b2 (by simp [go_sem]) (by simp)
  have g1 : w2.cell? ⟨w.heap.size + 1 + 1, 1, none⟩ = some (.int .u16 id) := kept_ b2 (by simp [go_sem]) (by simp)
  have g2 : w2.cell? ⟨w.heap.size + 1 + 1, 2, none⟩ = some (.bool fl) := kept_ b2 (by simp [go_sem]) (by simp)
  have g3 : w2.cell? ⟨w.heap.size + 1 + 1, 3, none⟩ = some (.int .u8 tt) := kept_ b2 (by simp [go_sem]) (by simp)
  have g4 : w2.cell? ⟨w.heap.size + 1 + 1, 4, none⟩ = some (.int .u8 pr) := kept_ b2 (by simp [go_sem]) (by simp)
  have g5 : w2.cell? ⟨w.heap.size + 1 + 1, 5, none⟩ = some (.int .u32 sr) := kept_ b2 (by simp [go_sem]) (by simp)
  have g6 : w2.cell? ⟨w.heap.size + 1 + 1, 6, none⟩ = some (.int .u32 ds) := kept_ b2 (by simp [go_sem]) (by simp)
  have g7 : w2.cell? ⟨w.heap.size + 1 + 1, 7, none⟩ = some (.string o) := kept_ b2 (by simp [go_sem]) (by simp)
  have g8 : w2.cell? ⟨w.heap.size + 1 + 1, 8, none⟩ = some (.int .u16 size) := kept_ b2 (by simp [go_sem]) (by simp)
  have g9 : w2.cell? ⟨w.heap.size + 1 + 1, 9, none⟩ = some (.int .u16 0) := kept_ b2 (by simp [go_sem]) (by simp)
  have c0 : w2.cell? ⟨w.heap.size + 1, 0, none⟩ = some (.int .u8 0) := kept_ b2 (by simp [go_sem]) (by simp)
  have c1 : w2.cell? ⟨w.heap.size + 1, 1, none⟩ = some (.int .u16 0) := kept_ b2 (by simp [go_sem]) (by simp)
  have c2 : w2.cell? ⟨w.heap.size + 1, 2, none⟩ = some (.bool false) := kept_ b2 (by simp [go_sem]) (by simp)
  have c3 : w2.cell? ⟨w.heap.size + 1, 3, none⟩ = some (.int .u8 0) := kept_ b2 (by simp [go_sem]) (by simp)
  have c4 : w2.cell? ⟨w.heap.size + 1, 4, none⟩ = some (.int .u8 0) := kept_ b2 (by simp [go_sem]) (by simp)
  have c5 : w2.cell? ⟨w.heap.size + 1, 5, none⟩ = some (.int .u32 0) := kept_ b2 (by simp [go_sem]) (by simp)
  have c6 : w2.cell? ⟨w.heap.size + 1, 6, none⟩ = some (.int .u32 0) := kept_ b2 (by simp [go_sem]) (by simp)
  have c7 : w2.cell? ⟨w.heap.size + 1, 7, none⟩ = some (.string ⟨#[]⟩) := kept_ b2 (by simp [go_sem]) (by simp)
  have c8 : w2.cell? ⟨w.heap.size + 1, 8, none⟩ = some (.int .u16 0) := kept_ b2 (by simp [go_sem]) (by simp)
  have c9 : w2.cell? ⟨w.heap.size + 1, 9, none⟩ = some (.int .u16 0) := kept_ b2 (by simp [go_sem]) (by simp)
  have f1 : ∀ j, w2.frozen? ⟨w.heap.size + 1, j, none⟩ = false := fun j => by rw [b2.frozen (p := ⟨_, j, none⟩) (by simp)]; simp [go_sem]
  have f2 : ∀ j, w2.frozen? ⟨w.heap.size + 1 + 1, j, none⟩ = false := fun j => by rw [b2.frozen (p := ⟨_, j, none⟩) (by simp)]; simp [go_sem]
  have u2 : w.heap.size + 1 + 1 < w2.heap.size := by have := b2.size; simp at this; omega
  have B2 : Below w.heap.size w w2 := ((((Below.refl _ _).alloc (Nat.le_refl _) _).alloc (by simp) _).alloc (by simp; omega) _).trans (b2.mono (by simp; omega))
  clear b2 cby
  go_wp2_with fail
  refine (csum _ _ (by simp) (by simp [go_sem])).mono ?_; rintro e w3 ⟨rfl, b3⟩
  have g0 : w3.cell? ⟨w.heap.size + 1 + 1, 0, none⟩ = some (.int .u8 a) := kept_ b3 ((World.cell?_alloc_lt _ _ _ (by exact u2)).trans g0) (by simp; omega)
  have g1 : w3.cell? ⟨w.heap.size + 1 + 1, 1, none⟩ = some (.int .u16 id) := kept_ b3 ((World.cell?_alloc_lt _ _ _ (by exact u2)).trans g1) (by simp; omega)
  have g2 : w3.cell? ⟨w.heap.size + 1 + 1, 2, none⟩ = some (.bool fl) := kept_ b3 ((World.cell?_alloc_lt _ _ _ (by exact u2)).trans g2) (by simp; omega)
  have g3 : w3.cell? ⟨w.heap.size + 1 + 1, 3, none⟩ = some (.int .u8 tt) := kept_ b3 ((World.cell?_alloc_lt _ _ _ (by exact u2)).trans g3) (by simp; omega)
  have g4 : w3.cell? ⟨w.heap.size + 1 + 1, 4, none⟩ = some (.int .u8 pr) := kept_ b3 ((World.cell?_alloc_lt _ _ _ (by exact u2)).trans g4) (by simp; omega)
  have g5 : w3.cell? ⟨w.heap.size + 1 + 1, 5, none⟩ = some (.int .u32 sr) := kept_ b3 ((World.cell?_alloc_lt _ _ _ (by exact u2)).trans g5) (by simp; omega)
  have g6 : w3.cell? ⟨w.heap.size + 1 + 1, 6, none⟩ = some (.int .u32 ds) := kept_ b3 ((World.cell?_alloc_lt _ _ _ (by exact u2)).trans g6) (by simp; omega)
  have g7 : w3.cell? ⟨w.heap.size + 1 + 1, 7, none⟩ = some (.string o) := kept_ b3 ((World.cell?_alloc_lt _ _ _ (by exact u2)).trans g7) (by simp; omega)
  have g8 : w3.cell? ⟨w.heap.size + 1 + 1, 8, none⟩ = some (.int .u16 size) := kept_ b3 ((World.cell?_alloc_lt _ _ _ (by exact u2)).trans g8) (by simp; omega)
  have g9 : w3.cell? ⟨w.heap.size + 1 + 1, 9, none⟩ = some (.int .u16 0) := kept_ b3 ((World.cell?_alloc_lt _ _ _ (by exact u2)).trans g9) (by simp; omega)
  have c0 : w3.cell? ⟨w.heap.size + 1, 0, none⟩ = some (.int .u8 0) := kept_ b3 ((World.cell?_alloc_lt _ _ _ (by show w.heap.size + 1 < _; omega)).trans c0) (by simp; omega)
  have c1 : w3.cell? ⟨w.heap.size + 1, 1, none⟩ = some (.int .u16 0) := kept_ b3 ((World.cell?_alloc_lt _ _ _ (by show w.heap.size + 1 < _; omega)).trans c1) (by simp; omega)
  have c2 : w3.cell? ⟨w.heap.size + 1, 2, none⟩ = some (.bool false) := kept_ b3 ((World.cell?_alloc_lt _ _ _ (by show w.heap.size + 1 < _; omega)).trans c2) (by simp; omega)
  have c3 : w3.cell? ⟨w.heap.size + 1, 3, none⟩ = some (.int .u8 0) := kept_ b3 ((World.cell?_alloc_lt _ _ _ (by show w.heap.size + 1 < _; omega)).trans c3) (by simp; omega)
  have c4 : w3.cell? ⟨w.heap.size + 1, 4, none⟩ = some (.int .u8 0) := kept_ b3 ((World.cell?_alloc_lt _ _ _ (by show w.heap.size + 1 < _; omega)).trans c4) (by simp; omega)
  have c5 : w3.cell? ⟨w.heap.size + 1, 5, none⟩ = some (.int .u32 0) := kept_ b3 ((World.cell?_alloc_lt _ _ _ (by show w.heap.size + 1 < _; omega)).trans c5) (by simp; omega)
  have c6 : w3.cell? ⟨w.heap.size + 1, 6, none⟩ = some (.int .u32 0) := kept_ b3 ((World.cell?_alloc_lt _ _ _ (by show w.heap.size + 1 < _; omega)).trans c6) (by simp; omega)
  have c7 : w3.cell? ⟨w.heap.size + 1, 7, none⟩ = some (.string ⟨#[]⟩) := kept_ b3 ((World.cell?_alloc_lt _ _ _ (by show w.heap.size + 1 < _; omega)).trans c7) (by simp; omega)
  have c8 : w3.cell? ⟨w.heap.size + 1, 8, none⟩ = some (.int .u16 0) := kept_ b3 ((World.cell?_alloc_lt _ _ _ (by show w.heap.size + 1 < _; omega)).trans c8) (by simp; omega)
  have c9 : w3.cell? ⟨w.heap.size + 1, 9, none⟩ = some (.int .u16 0) := kept_ b3 ((World.cell?_alloc_lt _ _ _ (by show w.heap.size + 1 < _; omega)).trans c9) (by simp; omega)
  have f1 : ∀ j, w3.frozen? ⟨w.heap.size + 1, j, none⟩ = false := fun j => by rw [b3.frozen (p := ⟨_, j, none⟩) (by simp; omega), ← f1 j]; exact World.frozen?_alloc_past _ _ _ (by omega)
  have f2 : ∀ j, w3.frozen? ⟨w.heap.size + 1 + 1, j, none⟩ = false := fun j => by rw [b3.frozen (p := ⟨_, j, none⟩) (by simp; omega), ← f2 j]; exact World.frozen?_alloc_past _ _ _ (by omega)
  have B3 : Below w.heap.size w w3 := (B2.alloc B2.size _).trans (b3.mono (by have := B2.size; simp; omega))
  have u3 : w.heap.size + 1 + 1 < w3.heap.size := by have := b3.size; simp at this; omega
  clear b3 csum B2
  go_wp2
  refine box10_ (b := w.heap.size + 1) ?_ (B3.setCell (by show _ ≤ w.heap.size + 1 + 1; omega) _) (by omega) fun w9 x0 x1 x2 x3 x4 x5 x6 x7 x8 x9 B9 _ _ => ?_
  · intro j hj
    rw [World.cell?_setCell_far _ _ _ _ (by show ¬ w.heap.size + 1 + 1 = w.heap.size + 1; omega)]
    match j, hj with
    | 0, _ => rw [c0]; rfl
    | 1, _ => rw [c1]; rfl
    | 2, _ => rw [c2]; rfl
    | 3, _ => rw [c3]; rfl
    | 4, _ => rw [c4]; rfl
    | 5, _ => rw [c5]; rfl
    | 6, _ => rw [c6]; rfl
    | 7, _ => rw [c7]; rfl
    | 8, _ => rw [c8]; rfl
    | 9, _ => rw [c9]; rfl
  refine bodyPost_ret (v := .agg #[.int .u8 a, .int .u16 id, .bool fl, .int .u8 tt, .int .u8 pr, .int .u32 sr, .int .u32 ds, .string o, .int .u16 size, .int .u16 sm]) (by simp [results, Try.results22, go_sem, x0, x1, x2, x3, x4, x5, x6, x7, x8, x9]) rfl ?_
  exact ⟨rfl, B9⟩
set_option maxHeartbeats 4000000 in
set_option maxRecDepth 100000 in
theorem put_ (a id : Int) (fl : Bool) (tt pr sr ds : Int) (o p : ByteArray) (w : World) (a0 : 0 ≤ a) (a1 : a ≤ 255) (i0 : 0 ≤ id) (i1 : id ≤ 65535) (t0 : 0 ≤ tt) (t1 : tt ≤ 255) (p0 : 0 ≤ pr) (p1 : pr ≤ 255)
    (s0 : 0 ≤ sr) (s1 : sr ≤ 4294967295) (d0 : 0 ≤ ds) (d1 : ds ≤ 4294967295) (ho : o.size ≤ 1000000) (hp : p.size ≤ 1000000) :
    Calls Try.prog 11 #[.agg #[.int .u8 a, .int .u16 id, .bool fl, .int .u8 tt, .int .u8 pr, .int .u32 sr, .int .u32 ds, .string o], .string p] w fun e w' => e = .returned (.tuple #[.string (putB a id fl tt pr sr ds o p), .int .i64 (putE o.size p.size)]) ∧ Below w.heap.size w w' := by
  obtain ⟨n, hn⟩ : ∃ n, o.size = n := ⟨_, rfl⟩
  obtain ⟨m, hm⟩ : ∃ m, p.size = m := ⟨_, rfl⟩
  rw [hn] at ho
  rw [hm] at hp
  by_cases h40 : 40 < n
  · have HE : Hid (putE o.size p.size = 2) := by show _ = _; unfold putE; rw [hn, if_pos (.inl h40)]
    have HB : Hid (putB a id fl tt pr sr ds o p = ⟨#[]⟩) := by show _ = _; unfold putB; rw [HE.out]; rfl
    have e2 : decide ((40 : Int) < (n : Int)) = true := by simp; omega
    have e3 : decide (40 < n) = true := by simp; omega
    clear h40
    go_enter Try.func11, Try.ntmps11
    go_wp2
    go_ret2
    rw [HE.out, HB.out]
    exact ⟨rfl, (Below.refl _ _).alloc (Nat.le_refl _) _⟩
  have e2 : decide ((40 : Int) < (n : Int)) = false := by simp; omega
  by_cases h4 : n % 4 = 0
  rotate_left
  · have HE : Hid (putE o.size p.size = 2) := by show _ = _; unfold putE; rw [hn, if_pos (.inr h4)]
    have HB : Hid (putB a id fl tt pr sr ds o p = ⟨#[]⟩) := by show _ = _; unfold putB; rw [HE.out]; rfl
    obtain ⟨r, hr⟩ : ∃ r : Int, (n : Int) % 4 = r := ⟨_, rfl⟩
    have e3 : (r != 0) = true := by simp; omega
    clear h40 h4
    go_enter Try.func11, Try.ntmps11
    go_wp2
    go_ret2
    rw [HE.out, HB.out]
    exact ⟨rfl, (Below.refl _ _).alloc (Nat.le_refl _) _⟩
  have e5 : (n : Int) % 4 = 0 := by omega
  by_cases h5 : 2028 < n + m
  · have HE : Hid (putE o.size p.size = 4) := by show _ = _; unfold putE; rw [hn, hm, if_neg (by omega), if_pos h5]
    have HB : Hid (putB a id fl tt pr sr ds o p = ⟨#[]⟩) := by show _ = _; unfold putB; rw [HE.out]; rfl
    have e6 : decide (2048 - (20 + (n : Int)) < (m : Int)) = true := by simp; omega
    clear h5 h4
    go_enter Try.func11, Try.ntmps11
    go_wp2
    go_ret2
    rw [HE.out, HB.out]
    exact ⟨rfl, (Below.refl _ _).alloc (Nat.le_refl _) _⟩
  have HE : Hid (putE o.size p.size = 0) := by show _ = _; unfold putE; rw [hn, hm, if_neg (by omega), if_neg h5]
  obtain ⟨z, hz⟩ : ∃ z : Int, z = 20 + (n : Int) + (m : Int) := ⟨_, rfl⟩
  have HB : Hid (putB a id fl tt pr sr ds o p = hdrS a id fl tt pr sr ds o z ++ p) := by show _ = _; unfold putB; rw [HE.out, if_pos rfl, hn, hm, hz]
  have e6 : decide (2048 - (20 + (n : Int)) < (m : Int)) = false := by simp; omega
  have hz0 : 0 ≤ z := by omega
  have hz1 : z ≤ 65535 := by omega
  have cse := fun u => seal_ a id fl tt pr sr ds o z u a0 a1 i0 i1 t0 t1 p0 p1 s0 s1 d0 d1 (by omega) hz0 hz1
  have hsm := sumV_bd [hdrB a id fl tt pr sr ds o z 0]
  have cby := fun u => bytes_ a id fl tt pr sr ds o z (sumV [hdrB a id fl tt pr sr ds o z 0]) u a0 a1 i0 i1 t0 t1 p0 p1 s0 s1 d0 d1 (by omega) hz0 hz1 hsm.1 hsm.2
  have hs2 := hdrB_size a id fl tt pr sr ds o z (sumV [hdrB a id fl tt pr sr ds o z 0])
  have HS2 : Hid (hdrS a id fl tt pr sr ds o z = hdrB a id fl tt pr sr ds o z (sumV [hdrB a id fl tt pr sr ds o z 0])) := rfl
  obtain ⟨H2, hH2⟩ : ∃ h, h = hdrB a id fl tt pr sr ds o z (sumV [hdrB a id fl tt pr sr ds o z 0]) := ⟨_, rfl⟩
  rw [← hH2] at cby hs2 HS2
  clear hH2
  generalize sumV [hdrB a id fl tt pr sr ds o z 0] = sm at *
  have q1 : H2.size + p.size ≤ 9223372036854775807 := by omega
  have x1 : 20 + (n : Int) + (m : Int) = z := hz.symm
  clear hs2 hz h4 h40 h5
  have HN := Lib.hid hn
  go_enter Try.func11, Try.ntmps11
  go_wp2_with fail
  refine (cse _).mono ?_; rintro e w2 ⟨rfl, b2⟩
  have B2 : Below w.heap.size w w2 := ((Below.refl _ _).alloc (Nat.le_refl _) _).trans (b2.mono (by simp))
  clear b2 cse
  go_wp2_with fail
  refine (cby _).mono ?_; rintro e w3 ⟨rfl, b3⟩
  have B3 : Below w.heap.size w w3 := B2.trans (b3.mono B2.size)
  clear b3 B2 cby
  go_wp2
  go_ret2
  rw [HE.out, HB.out, HS2.out]
  exact ⟨rfl, B3⟩
end Go.Proofs.Ytfiokjenfmpmlaa
