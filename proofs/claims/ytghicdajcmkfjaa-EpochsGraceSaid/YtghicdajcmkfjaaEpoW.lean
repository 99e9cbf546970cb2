/- Layer 14: the chapter's examples. Written by gen_waited.py. -/
import Derived.Test.YtghicdajcmkfjaaEpoK
import Derived.Test.YtghicdajcmkfjaaRegion
import Derived.Deep.DeepCutAuto
namespace Go.Proofs.Ytghicdajcmkfjaa
set_option linter.unusedVariables false
set_option linter.unusedSimpArgs false
open Go.ChangeShapes Go.WideShapes Go.ChangeAt Go.RowKit Go.PlainAid
attribute [local go_sem ↓] Go.wp_at_zero Go.wp_at_succ
set_option maxHeartbeats 2000000 in
set_option maxRecDepth 100000 in
theorem waited_ (K : EpochsOk) (w : World) : Says Try.prog 7 #[] w (.bool true) := by
  show Calls _ _ _ _ _
  go_enter Try.func7, Try.ntmps7
  go_wp2_with fail
  refine (K.news 2 w (by decide) (by decide)).mono ?_; rintro e w0 ⟨q, S0, rfl, b0, l0, R0⟩
  have P0 : Alone K.toObjP w w0 S0 q ⟨0, [-1, -1], []⟩ := ⟨R0, l0, b0⟩
  clear R0 l0 b0
  go_wp2_with fail
  have k1 : Told Try.prog K.toObjP 11 #[.pointer (some ⟨q, 0, none⟩), .int .i64 0] w0 S0 q (.int .i64 0) ⟨0, [0, -1], []⟩ := K.enters _ _ _ 0 _ P0.rep (by decide)
  refine k1.mono ?_; rintro e w1 ⟨rfl, S1, R1, f1, x1⟩
  have P1 := P0.one R1 f1 x1
  clear P0 R1 f1 x1 k1
  go_wp2_with fail
  have k2 : Told Try.prog K.toObjP 20 #[.pointer (some ⟨q, 0, none⟩), .int .i64 7] w1 S1 q (.int .i64 0) ⟨0, [0, -1], [(7, 0)]⟩ := K.defers _ _ _ 7 _ P1.rep (by decide)
  refine k2.mono ?_; rintro e w2 ⟨rfl, S2, R2, f2, x2⟩
  have P2 := P1.one R2 f2 x2
  clear P1 R2 f2 x2 k2
  go_wp2_with fail
  have k3 : Told Try.prog K.toObjP 15 #[.pointer (some ⟨q, 0, none⟩)] w2 S2 q (.bool true) ⟨1, [0, -1], [(7, 0)]⟩ := K.advs _ _ _ _ P2.rep (by decide)
  refine k3.mono ?_; rintro e w3 ⟨rfl, S3, R3, f3, x3⟩
  have P3 := P2.one R3 f3 x3
  clear P2 R3 f3 x3 k3
  go_wp2_with fail
  have k4 : Told Try.prog K.toObjP 15 #[.pointer (some ⟨q, 0, none⟩)] w3 S3 q (.bool false) ⟨1, [0, -1], [(7, 0)]⟩ := K.advs _ _ _ _ P3.rep (by decide)
  refine k4.mono ?_; rintro e w4 ⟨rfl, S4, R4, f4, x4⟩
  have P4 := P3.one R4 f4 x4
  clear P3 R4 f4 x4 k4
  go_wp2_with fail
  refine (K.ripes _ _ _ _ P4.rep (by decide)).mono ?_; rintro e w5 ⟨a5, len5, cap5, S5, rfl, R5, f5, x5, row5, ne5⟩
  have hl5 : len5 = 0 := row5.1.symm
  subst hl5
  have P5 : Alone K.toObjP w w5 S5 q ⟨1, [0, -1], [(7, 0)]⟩ := P4.one R5 f5 x5
  clear P4 R5 f5 x5
  clear row5 ne5
  go_wp2_with fail
  have k6 : Told Try.prog K.toObjP 13 #[.pointer (some ⟨q, 0, none⟩), .int .i64 0] w5 S5 q (.int .i64 0) ⟨1, [-1, -1], [(7, 0)]⟩ := K.leaves _ _ _ 0 _ P5.rep (by decide)
  refine k6.mono ?_; rintro e w6 ⟨rfl, S6, R6, f6, x6⟩
  have P6 := P5.one R6 f6 x6
  clear P5 R6 f6 x6 k6
  go_wp2_with fail
  have k7 : Told Try.prog K.toObjP 15 #[.pointer (some ⟨q, 0, none⟩)] w6 S6 q (.bool true) ⟨2, [-1, -1], [(7, 0)]⟩ := K.advs _ _ _ _ P6.rep (by decide)
  refine k7.mono ?_; rintro e w7 ⟨rfl, S7, R7, f7, x7⟩
  have P7 := P6.one R7 f7 x7
  clear P6 R7 f7 x7 k7
  go_wp2_with fail
  refine (K.ripes _ _ _ _ P7.rep (by decide)).mono ?_; rintro e w8 ⟨a8, len8, cap8, S8, rfl, R8, f8, x8, row8, ne8⟩
  have hl8 : len8 = 1 := row8.1.symm
  subst hl8
  have P8 : Alone K.toObjP w w8 S8 q ⟨2, [-1, -1], []⟩ := P7.one R8 f8 x8
  clear P7 R8 f8 x8
  obtain ⟨ba, oa, rfl, hla, hca⟩ := row8.2.resolve_left (by decide)
  have c7 : w8.cell? ⟨ba, oa, none⟩ = some (.int .i64 7) := hca 0 (by decide)
  have hb7 := (ne8 _ rfl).1
  clear row8 hca
  go_wp2_with fail
  refine (K.nows _ _ _ _ P8.rep).mono ?_; rintro e w9 ⟨rfl, x9⟩
  have P9 := P8.on x9
  have c7_9 := (x9.cell (p := ⟨ba, oa, none⟩) hla).trans c7
  have hla_9 := Nat.lt_of_lt_of_le hla x9.size
  clear P8 x9 c7 hla
  have c7 := c7_9
  have hla := hla_9
  clear c7_9 hla_9
  go_wp2_with fail
  refine (K.waits _ _ _ _ P9.rep (by decide)).mono ?_; rintro e w10 ⟨rfl, x10⟩
  have P10 := P9.on x10
  have c7_10 := (x10.cell (p := ⟨ba, oa, none⟩) hla).trans c7
  have hla_10 := Nat.lt_of_lt_of_le hla x10.size
  clear P9 x10 c7 hla
  have c7 := c7_10
  have hla := hla_10
  clear c7_10 hla_10
  go_wp2
  go_ret
  exact ⟨rfl, P10.below⟩
end Go.Proofs.Ytghicdajcmkfjaa
