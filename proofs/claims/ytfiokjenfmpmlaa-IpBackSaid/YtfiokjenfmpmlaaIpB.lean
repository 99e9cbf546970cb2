/- Contracts of the document's answers for layer 4: Put. -/
import Derived.Test.YtfiokjenfmpmlaaIpA
import Derived.Test.YtfiokjenfmpmlaaSumsLaid
namespace Go.Proofs.Ytfiokjenfmpmlaa
set_option linter.unusedVariables false
set_option linter.unusedSimpArgs false
open Go.ChangeShapes Go.WideShapes Go.ChangeAt Go.RowKit Go.PlainAid
theorem hdrB_size (a id : Int) (fl : Bool) (tt pr sr ds : Int) (o : ByteArray) (size sum : Int) : (hdrB a id fl tt pr sr ds o size sum).size = 20 + o.size := by
  unfold hdrB
  rw [ByteArray.size_append, size_W]
  rfl
/-- Why a packet can't be put; 0: it can. -/
def putE (n m : Nat) : Int := if 40 < n ∨ ¬ n % 4 = 0 then 2 else if 2028 < n + m then 4 else 0
/-- A header with its sum. -/
def hdrS (a id : Int) (fl : Bool) (tt pr sr ds : Int) (o : ByteArray) (size : Int) : ByteArray := hdrB a id fl tt pr sr ds o size (sumV [hdrB a id fl tt pr sr ds o size 0])
def putB (a id : Int) (fl : Bool) (tt pr sr ds : Int) (o p : ByteArray) : ByteArray :=
  if putE o.size p.size = 0 then hdrS a id fl tt pr sr ds o (20 + (o.size : Int) + (p.size : Int)) ++ p else ⟨#[]⟩
set_option maxHeartbeats 4000000 in
set_option maxRecDepth 100000 in
theorem rput4_ (a id : Int) (fl : Bool) (tt pr sr ds : Int) (o p : ByteArray) (w : World) (a0 : 0 ≤ a) (a1 : a ≤ 255) (i0 : 0 ≤ id) (i1 : id ≤ 65535) (t0 : 0 ≤ tt) (t1 : tt ≤ 255) (p0 : 0 ≤ pr) (p1 : pr ≤ 255)
    (s0 : 0 ≤ sr) (s1 : sr ≤ 4294967295) (d0 : 0 ≤ ds) (d1 : ds ≤ 4294967295) (ho : o.size ≤ maxLen) (hp : p.size ≤ maxLen) :
    Calls Try.prog 12 #[.agg #[.int .u8 a, .int .u16 id, .bool fl, .int .u8 tt, .int .u8 pr, .int .u32 sr, .int .u32 ds, .string o], .string p] w fun e w' => e = .returned (.tuple #[.string (putB a id fl tt pr sr ds o p), .int .i64 (putE o.size p.size)]) ∧ Below w.heap.size w w' := by
  unfold maxLen at ho hp
  have ho2 : (o.size : Int) ≤ 9223372036854775807 := by omega
  have hp2 : (p.size : Int) ≤ 9223372036854775807 := by omega
  by_cases h40 : 40 < o.size
  · have HE : Hid (putE o.size p.size = 2) := by show _ = _; unfold putE; rw [if_pos (.inl h40)]
    have HB : Hid (putB a id fl tt pr sr ds o p = ⟨#[]⟩) := by show _ = _; unfold putB; rw [HE.out]; rfl
    have e1 : decide (40 < o.size) = true := by simpa using h40
    have e2 : decide ((40 : Int) < (o.size : Int)) = true := by simp; omega
    clear h40
    go_enter Try.func12, Try.ntmps12
    go_wp2
    go_ret2
    rw [HE.out, HB.out]
    exact ⟨rfl, (Below.refl _ _).alloc (Nat.le_refl _) _⟩
  have e1 : decide (40 < o.size) = false := by simpa using h40
  have e2 : decide ((40 : Int) < (o.size : Int)) = false := by simp; omega
  by_cases h4 : o.size % 4 = 0
  rotate_left
  · have HE : Hid (putE o.size p.size = 2) := by show _ = _; unfold putE; rw [if_pos (.inr h4)]
    have HB : Hid (putB a id fl tt pr sr ds o p = ⟨#[]⟩) := by show _ = _; unfold putB; rw [HE.out]; rfl
    have e3 : decide ((0 : Int) < (o.size : Int) % 4) = true := by simp; omega
    have e4 : decide (0 < o.size % 4) = true := by simp; omega
    clear h40 h4
    go_enter Try.func12, Try.ntmps12
    go_wp2
    go_ret2
    rw [HE.out, HB.out]
    exact ⟨rfl, (Below.refl _ _).alloc (Nat.le_refl _) _⟩
  have e3 : decide ((0 : Int) < (o.size : Int) % 4) = false := by simp; omega
  have e4 : decide (0 < o.size % 4) = false := by simp; omega
  have e5 : (o.size : Int) % 4 = 0 := by omega
  by_cases hm : 2028 < o.size + p.size
  · have HE : Hid (putE o.size p.size = 4) := by show _ = _; unfold putE; rw [if_neg (by omega), if_pos hm]
    have HB : Hid (putB a id fl tt pr sr ds o p = ⟨#[]⟩) := by show _ = _; unfold putB; rw [HE.out]; rfl
    have e6 : decide (2028 - (o.size : Int) < (p.size : Int)) = true := by simp; omega
    clear hm h4
    go_enter Try.func12, Try.ntmps12
    go_wp2
    go_ret2
    rw [HE.out, HB.out]
    exact ⟨rfl, (Below.refl _ _).alloc (Nat.le_refl _) _⟩
  have HE : Hid (putE o.size p.size = 0) := by show _ = _; unfold putE; rw [if_neg (by omega), if_neg hm]
  obtain ⟨z, hz⟩ : ∃ z : Int, z = 20 + (o.size : Int) + (p.size : Int) := ⟨_, rfl⟩
  have HB : Hid (putB a id fl tt pr sr ds o p = hdrS a id fl tt pr sr ds o z ++ p) := by show _ = _; unfold putB; rw [HE.out, if_pos rfl, hz]
  have e6 : decide (2028 - (o.size : Int) < (p.size : Int)) = false := by simp; omega
  have hz0 : 0 ≤ z := by omega
  have hz1 : z ≤ 65535 := by omega
  have c1 := fun u => rbytes_ a id fl tt pr sr ds o z 0 u a0 a1 i0 i1 t0 t1 p0 p1 s0 s1 d0 d1 (by omega) hz0 hz1 (by omega) (by omega)
  have hsm := sumV_bd [hdrB a id fl tt pr sr ds o z 0]
  have c3 := fun u => rbytes_ a id fl tt pr sr ds o z (sumV [hdrB a id fl tt pr sr ds o z 0]) u a0 a1 i0 i1 t0 t1 p0 p1 s0 s1 d0 d1 (by omega) hz0 hz1 hsm.1 hsm.2
  have hs1 := hdrB_size a id fl tt pr sr ds o z 0
  have hs2 := hdrB_size a id fl tt pr sr ds o z (sumV [hdrB a id fl tt pr sr ds o z 0])
  have HS2 : Hid (hdrS a id fl tt pr sr ds o z = hdrB a id fl tt pr sr ds o z (sumV [hdrB a id fl tt pr sr ds o z 0])) := rfl
  obtain ⟨H2, hH2⟩ : ∃ h, h = hdrB a id fl tt pr sr ds o z (sumV [hdrB a id fl tt pr sr ds o z 0]) := ⟨_, rfl⟩
  rw [← hH2] at c3 hs2 HS2
  clear hH2
  obtain ⟨H1, hH1⟩ : ∃ h, h = hdrB a id fl tt pr sr ds o z 0 := ⟨_, rfl⟩
  rw [← hH1] at c1 hs1 hsm c3
  clear hH1
  have c2 : ∀ (u : World) (b : Nat), b < u.heap.size → u.cell? ⟨b, 0, none⟩ = some (.string H1) → Calls Try.prog 24 #[.slice (some ⟨b, 0, none⟩) 1 1] u fun e w' => e = .returned (.int .u16 (sumV [H1])) ∧ u = w' :=
    fun u b hb h0 => rsum_ _ 1 1 [H1] u (rowS1 hb h0 (by unfold maxLen; omega)) (by intro s hs; simp at hs; subst hs; unfold maxLen; omega)
  generalize sumV [H1] = sm at *
  have q1 : H2.size + p.size ≤ 9223372036854775807 := by omega
  have x1 : 20 + (o.size : Int) + (p.size : Int) = z := hz.symm
  have HZ := Lib.hid hs1
  have HZ2 := Lib.hid hs2
  clear hz hm h4 h40 hs1 hs2
  go_enter Try.func12, Try.ntmps12
  go_wp2_with fail
  refine (c1 _).mono ?_; rintro e w2 ⟨rfl, b2⟩
  have g0 : w2.cell? ⟨w.heap.size, 0, none⟩ = some (.int .u8 a) := kept_ b2 (by simp [go_sem]) (by simp)
  have g1 : w2.cell? ⟨w.heap.size, 1, none⟩ = some (.int .u16 id) := kept_ b2 (by simp [go_sem]) (by simp)
  have g2 : w2.cell? ⟨w.heap.size, 2, none⟩ = some (.bool fl) := kept_ b2 (by simp [go_sem]) (by simp)
  have g3 : w2.cell? ⟨w.heap.size, 3, none⟩ = some (.int .u8 tt) := kept_ b2 (by simp [go_sem]) (by simp)
  have g4 : w2.cell? ⟨w.heap.size, 4, none⟩ = some (.int .u8 pr) := kept_ b2 (by simp [go_sem]) (by simp)
  have g5 : w2.cell? ⟨w.heap.size, 5, none⟩ = some (.int .u32 sr) := kept_ b2 (by simp [go_sem]) (by simp)
  have g6 : w2.cell? ⟨w.heap.size, 6, none⟩ = some (.int .u32 ds) := kept_ b2 (by simp [go_sem]) (by simp)
  have g7 : w2.cell? ⟨w.heap.size, 7, none⟩ = some (.string o) := kept_ b2 (by simp [go_sem]) (by simp)
  have u2 : w.heap.size < w2.heap.size := by have := b2.size; simp at this; omega
  have B2 : Below w.heap.size w w2 := ((Below.refl _ _).alloc (Nat.le_refl _) _).trans (b2.mono (by simp))
  clear b2
  go_wp2_with fail
  refine (c2 _ _ (by simp) (by simp [go_sem])).mono ?_; rintro e w3 ⟨rfl, rfl⟩
  go_wp2_with fail
  refine (c3 _).mono ?_; rintro e w4 ⟨rfl, b4⟩
  have B4 : Below w.heap.size w w4 := (B2.alloc B2.size _).trans (b4.mono (by simp; omega))
  clear g0 g1 g2 g3 g4 g5 g6 g7 b4 B2
  go_wp2
  go_ret2
  rw [HE.out, HB.out, HS2.out]
  exact ⟨rfl, B4⟩
end Go.Proofs.Ytfiokjenfmpmlaa
