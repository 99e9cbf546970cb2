/- The walk of IpPut. -/
import Derived.Test.YtfiokjenfmpmlaaIpM
namespace Go.Proofs.Ytfiokjenfmpmlaa.IpPut
set_option linter.unusedVariables false
set_option linter.unusedSimpArgs false
open Go.ChangeShapes Go.WideShapes Go.ChangeAt Go.RowKit Go.PlainAid
set_option maxRecDepth 100000 in
set_option maxHeartbeats 2000000 in
theorem walk (a id : Int) (fl : Bool) (tt pr sr ds : Int) (o p : ByteArray) (w : World) (ha : (Lit.int .u8 a).wf = true) (hi : (Lit.int .u16 id).wf = true) (ht : (Lit.int .u8 tt).wf = true) (hp : (Lit.int .u8 pr).wf = true) (hsr : (Lit.int .u32 sr).wf = true) (hds : (Lit.int .u32 ds).wf = true) (ho : o.size ≤ maxLen) (hpl : p.size ≤ maxLen) :
    Calls Try.prog 4 #[.agg #[.int .u8 a, .int .u16 id, .bool fl, .int .u8 tt, .int .u8 pr, .int .u32 sr, .int .u32 ds, .string o], .string p] w fun e w' => e = .returned (.bool true) ∧ Below w.heap.size w w' := by
  obtain ⟨a0, a1⟩ := bounds_u8 ha
  obtain ⟨i0, i1⟩ := bounds_u16 hi
  obtain ⟨t0, t1⟩ := bounds_u8 ht
  obtain ⟨p0, p1⟩ := bounds_u8 hp
  obtain ⟨s0, s1⟩ := bounds_u32 hsr
  obtain ⟨d0, d1⟩ := bounds_u32 hds
  clear ha hi ht hp hsr hds
  by_cases h1 : 100 < o.size
  · have e1 : decide ((100 : Int) < (o.size : Int)) = true := by simp; omega
    clear h1
    go_enter Try.func4, Try.ntmps4
    go_wp2_with fail
    refine (headed_ _).mono ?_; rintro e w1 ⟨rfl, b1⟩
    have B1 : Below w.heap.size w w1 := ((Below.refl _ _).alloc (Nat.le_refl _) _).trans (b1.mono (by simp))
    go_wp2
    go_ret
    exact ⟨rfl, B1⟩
  have e1 : decide ((100 : Int) < (o.size : Int)) = false := by simp; omega
  by_cases h2 : 2100 < p.size
  · have e2 : decide ((2100 : Int) < (p.size : Int)) = true := by simp; omega
    clear h1 h2
    go_enter Try.func4, Try.ntmps4
    go_wp2_with fail
    refine (headed_ _).mono ?_; rintro e w1 ⟨rfl, b1⟩
    have B1 : Below w.heap.size w w1 := ((Below.refl _ _).alloc (Nat.le_refl _) _).trans (b1.mono (by simp))
    go_wp2
    go_ret
    exact ⟨rfl, B1⟩
  have e2 : decide ((2100 : Int) < (p.size : Int)) = false := by simp; omega
  have c1 := fun u => put_ a id fl tt pr sr ds o p u a0 a1 i0 i1 t0 t1 p0 p1 s0 s1 d0 d1 (by omega) (by omega)
  have c2 := fun u => rput4_ a id fl tt pr sr ds o p u a0 a1 i0 i1 t0 t1 p0 p1 s0 s1 d0 d1 ho hpl
  generalize putB a id fl tt pr sr ds o p = t at *
  generalize putE o.size p.size = r at *
  clear h1 h2
  go_enter Try.func4, Try.ntmps4
  go_wp2_with fail
  have A1 := Box8.make w (.int .u8 a) (.int .u16 id) (.bool fl) (.int .u8 tt) (.int .u8 pr) (.int .u32 sr) (.int .u32 ds) (.string o) 27
  refine (c1 _).mono ?_; rintro e w1 ⟨rfl, b1⟩
  obtain ⟨_, f0, f1, f2, f3, f4, f5, f6, f7⟩ := A1.on b1
  have B1 : Below w.heap.size w w1 := ((Below.refl _ _).alloc (Nat.le_refl _) _).trans (b1.mono (by simp))
  clear b1 c1 A1
  go_wp2_with fail
  refine (c2 _).mono ?_; rintro e w2 ⟨rfl, b2⟩
  have B2 := B1.trans (b2.mono B1.size)
  clear B1 b2 c2 f0 f1 f2 f3 f4 f5 f6 f7
  go_wp2_with fail
  refine (headed_ _).mono ?_; rintro e w3 ⟨rfl, b3⟩
  have B3 := B2.trans (b3.mono B2.size)
  clear B2 b3
  go_wp2
  go_ret
  exact ⟨rfl, B3⟩
end Go.Proofs.Ytfiokjenfmpmlaa.IpPut
