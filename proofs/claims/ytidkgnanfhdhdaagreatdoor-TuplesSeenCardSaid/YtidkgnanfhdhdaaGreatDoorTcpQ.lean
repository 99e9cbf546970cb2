/- Plain: what is parsed of what was put, and put of what was parsed (layer 6). -/
import Derived.Test.YtidkgnanfhdhdaaGreatDoorGh
namespace Go.Proofs.YtidkgnanfhdhdaaGreatDoor
set_option linter.unusedVariables false
set_option linter.unusedSimpArgs false
open Go.ChangeShapes Go.WideShapes Go.ChangeAt Go.RowKit Go.PlainAid
theorem tcpW_wf {sp dp sq ak lo fl wi su ur : Int} {n : Nat} (a0 : 0 ≤ sp) (a1 : sp ≤ 65535) (b0 : 0 ≤ dp) (b1 : dp ≤ 65535) (c0 : 0 ≤ sq) (c1 : sq ≤ 4294967295) (d0 : 0 ≤ ak) (d1 : ak ≤ 4294967295) (e0 : 0 ≤ lo) (e1 : lo ≤ 15) (f0 : 0 ≤ fl) (f1 : fl ≤ 255)
    (g0 : 0 ≤ wi) (g1 : wi ≤ 65535) (h0 : 0 ≤ su) (h1 : su ≤ 65535) (i0 : 0 ≤ ur) (i1 : ur ≤ 65535) (hn : n ≤ 40) : ∀ x ∈ tcpW sp dp sq ak lo fl wi su ur n, 0 ≤ x ∧ x ≤ 65535 := by
  intro x hx
  simp only [tcpW, List.mem_cons, List.not_mem_nil, or_false] at hx
  rcases hx with h | h | h | h | h | h | h | h | h | h <;> omega
theorem parse_put6 (sp dp sq ak lo fl wi su ur : Int) (o p : ByteArray) (a0 : 0 ≤ sp) (a1 : sp ≤ 65535) (b0 : 0 ≤ dp) (b1 : dp ≤ 65535) (c0 : 0 ≤ sq) (c1 : sq ≤ 4294967295) (d0 : 0 ≤ ak) (d1 : ak ≤ 4294967295) (e0 : 0 ≤ lo) (e1 : lo ≤ 15) (f0 : 0 ≤ fl) (f1 : fl ≤ 255)
    (g0 : 0 ≤ wi) (g1 : wi ≤ 65535) (h0 : 0 ≤ su) (h1 : su ≤ 65535) (i0 : 0 ≤ ur) (i1 : ur ≤ 65535) (hn : o.size ≤ 40) (h4 : o.size % 4 = 0) :
    let t := tcpB sp dp sq ak lo fl wi su ur o p
    t.size = 20 + o.size + p.size ∧ tOk t = true ∧ g16 t 0 = sp ∧ g16 t 2 = dp ∧ g32 t 4 = sq ∧ g32 t 8 = ak ∧ bt t 12 % 16 = lo ∧ bt t 13 = fl ∧ g16 t 14 = wi ∧ g16 t 16 = su ∧ g16 t 18 = ur ∧ tO t = o ∧ tP t = p := by
  intro t
  have hwf := tcpW_wf (n := o.size) a0 a1 b0 b1 c0 c1 d0 d1 e0 e1 f0 f1 g0 g1 h0 h1 i0 i1 hn
  have hz : (strOfNums (wordL (tcpW sp dp sq ak lo fl wi su ur o.size))).size = 20 := by rw [size_W]; rfl
  have ht : t = strOfNums (wordL (tcpW sp dp sq ak lo fl wi su ur o.size)) ++ (o ++ p) := by show tcpB sp dp sq ak lo fl wi su ur o p = _; unfold tcpB; rw [ByteArray.append_assoc]
  have hts : t.size = 20 + o.size + p.size := by rw [ht, ByteArray.size_append, hz, ByteArray.size_append]; omega
  have w : ∀ i, i < 10 → g16 t (2 * i) = (tcpW sp dp sq ak lo fl wi su ur o.size).getD i 0 := by
    intro i hi
    rw [ht, g16_app_l _ _ _ (by omega), g16_W _ hwf]
  have w2 : g16 t 4 = sq / 65536 := w 2 (by omega)
  have w3 : g16 t 6 = sq % 65536 := w 3 (by omega)
  have w4 : g16 t 8 = ak / 65536 := w 4 (by omega)
  have w5 : g16 t 10 = ak % 65536 := w 5 (by omega)
  have w6 : g16 t 12 = 256 * (80 + 4 * (o.size : Int) + lo) + fl := w 6 (by omega)
  have v12 : bt t 12 = 80 + 4 * (o.size : Int) + lo := by rw [bt_hi, w6]; omega
  have v13 : bt t 13 = fl := by rw [show (13 : Nat) = 12 + 1 by rfl, bt_lo, w6]; omega
  have hown : tOwn t = 20 + o.size := by unfold tOwn; rw [v12]; omega
  have hok : tOk t = true := by unfold tOk; rw [hown, hts]; simp; omega
  obtain ⟨_, _, _, _, y2, y3⟩ := tOk_yes hok
  have x1 : t.extract 20 (20 + o.size) = o := by
    rw [ht]
    have := ext_app_r (strOfNums (wordL (tcpW sp dp sq ak lo fl wi su ur o.size))) (o ++ p) 0 o.size
    rw [hz, Nat.add_zero, ext_app_l] at this
    exact this
  have x2 : t.extract (20 + o.size) t.size = p := by
    have e : t = (strOfNums (wordL (tcpW sp dp sq ak lo fl wi su ur o.size)) ++ o) ++ p := rfl
    have := ext_app_r (strOfNums (wordL (tcpW sp dp sq ak lo fl wi su ur o.size)) ++ o) p 0 p.size
    rw [ext_all, Nat.add_zero, ByteArray.size_append, hz, ← e, ← hts] at this
    exact this
  refine ⟨hts, hok, w 0 (by omega), w 1 (by omega), ?_, ?_, by rw [v12]; omega, v13, w 7 (by omega), w 8 (by omega), w 9 (by omega), by rw [y2, hown]; exact x1, by rw [y3, hown]; exact x2⟩
  · rw [g32_two, w2, w3]; omega
  · rw [g32_two, w4, w5]; omega
end Go.Proofs.YtidkgnanfhdhdaaGreatDoor
