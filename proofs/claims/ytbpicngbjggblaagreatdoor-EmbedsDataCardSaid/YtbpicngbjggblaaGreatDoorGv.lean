/- Plain: what is parsed of what was put, and put of what was parsed (layer 6). -/
import Derived.Test.YtbpicngbjggblaaGreatDoorGh
namespace Go.Proofs.YtbpicngbjggblaaGreatDoor
set_option linter.unusedVariables false
set_option linter.unusedSimpArgs false
open Go.ChangeShapes Go.WideShapes Go.ChangeAt Go.RowKit Go.PlainAid
theorem tcpW_wf {sp dp sq ak lo fl wi su ur : Int} {n : Nat} (a0 : 0 ≤ sp) (a1 : sp ≤ 65535) (b0 : 0 ≤ dp) (b1 : dp ≤ 65535) (c0 : 0 ≤ sq) (c1 : sq ≤ 4294967295) (d0 : 0 ≤ ak) (d1 : ak ≤ 4294967295) (e0 : 0 ≤ lo) (e1 : lo ≤ 15) (f0 : 0 ≤ fl) (f1 : fl ≤ 255)
    (g0 : 0 ≤ wi) (g1 : wi ≤ 65535) (h0 : 0 ≤ su) (h1 : su ≤ 65535) (i0 : 0 ≤ ur) (i1 : ur ≤ 65535) (hn : n ≤ 40) : ∀ x ∈ tcpW sp dp sq ak lo fl wi su ur n, 0 ≤ x ∧ x ≤ 65535 := by
  intro x hx
  simp only [tcpW, List.mem_cons, List.not_mem_nil, or_false] at hx
  rcases hx with h | h | h | h | h | h | h | h | h | h <;> omega
/-- What is parsed is put as it was. -/
theorem put_parse6 (s : ByteArray) (h : tOk s = true) :
    tE (tO s).size (bt s 12 % 16) = 0 ∧ tcpB (g16 s 0) (g16 s 2) (g32 s 4) (g32 s 8) (bt s 12 % 16) (bt s 13) (g16 s 14) (g16 s 16) (g16 s 18) (tO s) (tP s) = s := by
  obtain ⟨h1, h2, h3, _, y2, y3⟩ := tOk_yes h
  have b0 := bt_nonneg s 12; have b1 := bt_le s 12
  have hn : (tOwn s : Int) = bt s 12 / 16 * 4 := by unfold tOwn; omega
  have zo : (tO s).size = tOwn s - 20 := by rw [y2]; exact size_extract' s 20 (tOwn s) h2 h3
  have h60 : tOwn s ≤ 60 := by omega
  refine ⟨by unfold tE; rw [zo, if_neg (by omega)], ?_⟩
  unfold tcpB
  rw [y3, zo]
  have key : strOfNums (wordL (tcpW (g16 s 0) (g16 s 2) (g32 s 4) (g32 s 8) (bt s 12 % 16) (bt s 13) (g16 s 14) (g16 s 16) (g16 s 18) (tOwn s - 20))) = s.extract 0 20 := by
    have d0 := g16_nonneg s; have d1 := g16_le s; have f0 := bt_nonneg s 13; have f1 := bt_le s 13
    have q4 := g32_two s 4; have q8 := g32_two s 8
    have p4 := d0 4; have p4' := d1 4; have p6 := d0 (4 + 2); have p6' := d1 (4 + 2); have p8 := d0 8; have p8' := d1 8; have p10 := d0 (8 + 2); have p10' := d1 (8 + 2)
    have hwf := tcpW_wf (sp := g16 s 0) (dp := g16 s 2) (sq := g32 s 4) (ak := g32 s 8) (lo := bt s 12 % 16) (fl := bt s 13) (wi := g16 s 14) (su := g16 s 16) (ur := g16 s 18) (n := tOwn s - 20) (d0 0) (d1 0) (d0 2) (d1 2) (by omega) (by omega) (by omega) (by omega) (by omega) (by omega) f0 f1 (d0 14) (d1 14) (d0 16) (d1 16) (d0 18) (d1 18) (by omega)
    refine ba_g16 10 (by rw [size_W]; rfl) (by rw [size_extract' s 0 20 (by omega) (by omega)]) fun i hi => ?_
    rw [g16_W _ hwf, g16_ext0 s 20 (2 * i) (by omega) (by omega)]
    have e12 : g16 s 12 = bt s 12 * 256 + bt s 13 := rfl
    match i, hi with
    | 0, _ => rfl
    | 1, _ => rfl
    | 2, _ => show g32 s 4 / 65536 = g16 s 4; omega
    | 3, _ => show g32 s 4 % 65536 = g16 s 6; rw [q4]; show _ = g16 s (4 + 2); omega
    | 4, _ => show g32 s 8 / 65536 = g16 s 8; omega
    | 5, _ => show g32 s 8 % 65536 = g16 s 10; rw [q8]; show _ = g16 s (8 + 2); omega
    | 6, _ => show 256 * (80 + 4 * ((tOwn s - 20 : Nat) : Int) + bt s 12 % 16) + bt s 13 = g16 s 12; rw [e12]; omega
    | 7, _ => rfl
    | 8, _ => rfl
    | 9, _ => rfl
  rw [key, y2, ext_join s 0 20 (tOwn s) (by omega) h2, ext_join s 0 (tOwn s) s.size (by omega) h3, ext_all]
end Go.Proofs.YtbpicngbjggblaaGreatDoor
