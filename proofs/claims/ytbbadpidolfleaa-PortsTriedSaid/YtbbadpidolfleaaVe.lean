/- Texts of this proof, together: PzF, PzY. -/
import Derived.Test.YtbbadpidolfleaaPzT
import Derived.Test.YtbbadpidolfleaaVc
import Derived.Test.YtbbadpidolfleaaVd
namespace Go.Proofs.Ytbbadpidolfleaa
set_option linter.unusedVariables false
set_option maxRecDepth 100000
set_option linter.unusedSimpArgs false
open Go.ChangeShapes Go.WideShapes Go.ChangeAt Go.RowKit Go.PlainAid
/-- The row of a port that is found. -/
def Wi.row (v : Wi) (k : Int) : Ro := ⟨v.pr, v.oi, k, v.ii, v.ip, 0, 0⟩
theorem above_box {b n : Nat} {W X : World} (h : Beside (fun k => k = b) W X) (hn : b < n) : Above n W X := ⟨h.size, fun k hk hl => h.block k hl (fun e => by omega)⟩
theorem find_pre {α : Type} {q : α → Bool} {l pre : List α} {k : α} (h : pre ++ [k] <+: l) (h1 : ∀ a ∈ pre, q a = false) (h2 : q k = true) : l.find? q = some k := by
  obtain ⟨t, rfl⟩ := h
  rw [List.append_assoc, List.find?_append, List.find?_eq_none.2 (fun a ha => by rw [h1 a ha]; decide)]
  simp [h2]
/-- What find has in memory. -/
structure FiS (W : World) (B p : Nat) (v : Wi) (r : Ro) (b : Bool) : Prop where
  c : W.cell? ⟨B, 0, none⟩ = some (.pointer (some ⟨p, 0, none⟩))
  wi : WiB W (B + 1) v
  ro : RowB W (B + 1 + 1) r
  ok : W.cell? ⟨B + 1 + 1 + 1, 0, none⟩ = some (.bool b)
  fr : W.frozen? ⟨B + 1 + 1 + 1, 0, none⟩ = false
  sz : B + 4 ≤ W.heap.size
theorem FiS.keep {W W' : World} {B p : Nat} {v : Wi} {r : Ro} {b : Bool} (h : FiS W B p v r b) (hs : W.heap.size ≤ W'.heap.size) (hb : ∀ k, B ≤ k → k < B + 4 → W'.heap[k]? = W.heap[k]?) : FiS W' B p v r b :=
  ⟨(World.cell?_of_block (w := W) (a := ⟨B, 0, none⟩) (hb B (Nat.le_refl _) (by omega))).trans h.c, h.wi.keep hs (hb (B + 1) (by omega) (by omega)), h.ro.keep hs (hb (B + 1 + 1) (by omega) (by omega)), (World.cell?_of_block (w := W) (a := ⟨B + 1 + 1 + 1, 0, none⟩) (hb (B + 1 + 1 + 1) (by omega) (by omega))).trans h.ok, (World.frozen?_of_block (w := W) (a := ⟨B + 1 + 1 + 1, 0, none⟩) (hb (B + 1 + 1 + 1) (by omega) (by omega))).trans h.fr, Nat.le_trans h.sz hs⟩
theorem FiS.below {W W' : World} {B p n : Nat} {v : Wi} {r : Ro} {b : Bool} (h : FiS W B p v r b) (hb : Below n W W') (hn : B + 4 ≤ n) : FiS W' B p v r b := h.keep hb.size fun k h1 h2 => hb.block k (by omega)
theorem FiS.made (W : World) (p : Nat) (v : Wi) (t1 t2 t3 t4 : TypeId) : FiS ((((W.alloc (.cells #[.pointer (some ⟨p, 0, none⟩)] t1)).alloc (.cells #[.int .u8 v.pr, .int .u32 v.ii, .int .u16 v.ip, .int .u32 v.oi, .int .u16 v.fr, .int .u16 v.to, .int .u16 v.dr] t2)).alloc (.cells #[.int .u8 0, .int .u32 0, .int .u16 0, .int .u32 0, .int .u16 0, .int .i64 0, .int .i64 0] t3)).alloc (.cells #[.bool false] t4)) W.heap.size p v Ro.zero false := by
  have e1 : (W.alloc (.cells #[.pointer (some ⟨p, 0, none⟩)] t1)).heap.size = W.heap.size + 1 := by simp
  have e2 : ((W.alloc (.cells #[.pointer (some ⟨p, 0, none⟩)] t1)).alloc (.cells #[.int .u8 v.pr, .int .u32 v.ii, .int .u16 v.ip, .int .u32 v.oi, .int .u16 v.fr, .int .u16 v.to, .int .u16 v.dr] t2)).heap.size = W.heap.size + 1 + 1 := by simp
  have h1 := ((WiB.made (W.alloc (.cells #[.pointer (some ⟨p, 0, none⟩)] t1)) v t2).on ((Below.refl _ _).alloc (Nat.le_refl _) (.cells #[.int .u8 0, .int .u32 0, .int .u16 0, .int .u32 0, .int .u16 0, .int .i64 0, .int .i64 0] t3))).on ((Below.refl _ _).alloc (Nat.le_refl _) (.cells #[.bool false] t4))
  have h2 := (RowB.none ((W.alloc (.cells #[.pointer (some ⟨p, 0, none⟩)] t1)).alloc (.cells #[.int .u8 v.pr, .int .u32 v.ii, .int .u16 v.ip, .int .u32 v.oi, .int .u16 v.fr, .int .u16 v.to, .int .u16 v.dr] t2)) t3).on ((Below.refl _ _).alloc (Nat.le_refl _) (.cells #[.bool false] t4))
  rw [e1] at h1
  rw [e2] at h2
  exact ⟨by simp [go_sem], h1, h2, by simp [go_sem], by simp [go_sem], by simp⟩
theorem row_set {W : World} {b : Nat} {r r0 : Ro} {M : World → Prop} {q : Addr} {u : Value} (h : RowB W b r0) (k : ∀ X : World, RowB X b r → Beside (fun k => k = b) W X → M (X.setCell q u)) : M ((((((((W.setCell ⟨b, 0, none⟩ (.int .u8 r.pr)).setCell ⟨b, 1, none⟩ (.int .u32 r.oi)).setCell ⟨b, 2, none⟩ (.int .u16 r.op)).setCell ⟨b, 3, none⟩ (.int .u32 r.ii)).setCell ⟨b, 4, none⟩ (.int .u16 r.ip)).setCell ⟨b, 5, none⟩ (.int .i64 (r.lv : Int))).setCell ⟨b, 6, none⟩ (.int .i64 (r.hd : Int))).setCell q u) :=
  row_ (M := fun X => M (X.setCell q u)) h k
theorem FiS.rows {W X : World} {B p : Nat} {v : Wi} {r r' : Ro} {b b' : Bool} (h : FiS W B p v r b) (hx : RowB X (B + 1 + 1) r') (hb : Beside (fun k => k = B + 1 + 1) W X) : FiS (X.setCell ⟨B + 1 + 1 + 1, 0, none⟩ (.bool b')) B p v r' b' ∧ Beside (fun k => k = B + 1 + 1 ∨ k = B + 1 + 1 + 1) W (X.setCell ⟨B + 1 + 1 + 1, 0, none⟩ (.bool b')) := by
  have blk : ∀ k, k < W.heap.size → k ≠ B + 1 + 1 → X.heap[k]? = W.heap[k]? := fun k hk hn => hb.block k hk hn
  have hk1 : ∀ j, j ≠ B + 1 + 1 + 1 → (X.setCell ⟨B + 1 + 1 + 1, 0, none⟩ (.bool b')).heap[j]? = X.heap[j]? := fun j hj => Below.heap_setCell _ _ _ _ hj
  have sz : X.heap.size ≤ (X.setCell ⟨B + 1 + 1 + 1, 0, none⟩ (.bool b')).heap.size := by simp [World.setCell]
  have hsz := h.sz
  have o3 := (World.cell?_of_block (w := W) (a := ⟨B + 1 + 1 + 1, 0, none⟩) (blk (B + 1 + 1 + 1) (by omega) (by omega))).trans h.ok
  have f3 := (World.frozen?_of_block (w := W) (a := ⟨B + 1 + 1 + 1, 0, none⟩) (blk (B + 1 + 1 + 1) (by omega) (by omega))).trans h.fr
  refine ⟨⟨(World.cell?_of_block (w := W) (a := ⟨B, 0, none⟩) ((hk1 B (by omega)).trans (blk B (by omega) (by omega)))).trans h.c, h.wi.keep (Nat.le_trans hb.size sz) ((hk1 (B + 1) (by omega)).trans (blk (B + 1) (by omega) (by omega))), hx.keep sz (hk1 (B + 1 + 1) (by omega)), World.cell?_setCell_same _ _ _ o3, by rw [World.frozen?_setCell]; exact f3, Nat.le_trans h.sz (Nat.le_trans hb.size sz)⟩, ?_⟩
  exact (hb.mono (fun k _ e => .inl e)).setCell (p := ⟨B + 1 + 1 + 1, 0, none⟩) (.inr rfl) _
theorem above_two {a b n : Nat} {W X : World} (h : Beside (fun k => k = a ∨ k = b) W X) (h1 : a < n) (h2 : b < n) : Above n W X := ⟨h.size, fun k hk hl => h.block k hl (fun e => by rcases e with e | e <;> omega)⟩
theorem find_low {v : Wi} (hm : v.may) {k : Int} (hk : v.fr ≤ k ∧ k ≤ v.to) : 0 ≤ k := by have := hm.1; omega
theorem find_top {v : Wi} (hv : WOk v) {k : Int} (hk : v.fr ≤ k ∧ k ≤ v.to) : k < 65536 := by have := hv.to1; omega
section
variable {p rb ob : Nat} {x : Po}
attribute [local go_sem] Oper.semAt_some
set_option maxHeartbeats 4000000 in
/-- (*Ports).find. -/
theorem pz_find_ {W0 : World} (h : PzI W0 p rb ob x) {v : Wi} (hv : WOk v) (hm : v.may) : Says Try.prog 34 #[.pointer (some ⟨p, 0, none⟩), .agg #[.int .u8 v.pr, .int .u32 v.ii, .int .u16 v.ip, .int .u32 v.oi, .int .u16 v.fr, .int .u16 v.to, .int .u16 v.dr]] W0 (rowV ((x.free v).map v.row)) := by
  refine (callsIn_wide (n := 12)).1 ?_
  refine callsIn_of_wp_marks Try.func34 rfl trivial ?_ rfl
  simp only [Try.ntmps34, List.size_toArray, List.length_cons, List.length_nil, Nat.reduceAdd, Nat.reduceSub, Array.replicate_succ, Array.replicate_zero, List.push_toArray, List.append_toArray, List.nil_append, List.cons_append, Array.append_empty]
  have H := Lib.hid h
  have HM := Lib.hid hm
  have HV := Lib.hid hv
  clear h hm hv
  gi_wp2_with fail
  have T4 := FiS.made W0 p v 24 36 44 4
  have B4 : Below W0.heap.size W0 ((((W0.alloc (.cells #[.pointer (some ⟨p, 0, none⟩)] 24)).alloc (.cells #[.int .u8 v.pr, .int .u32 v.ii, .int .u16 v.ip, .int .u32 v.oi, .int .u16 v.fr, .int .u16 v.to, .int .u16 v.dr] 36)).alloc (.cells #[.int .u8 0, .int .u32 0, .int .u16 0, .int .u32 0, .int .u16 0, .int .i64 0, .int .i64 0] 44)).alloc (.cells #[.bool false] 4)) := ((((Below.refl _ W0).alloc (Nat.le_refl _) _).alloc (by simp) _).alloc (by simp; omega) _).alloc (by simp; omega) _
  generalize ((((W0.alloc (.cells #[.pointer (some ⟨p, 0, none⟩)] 24)).alloc (.cells #[.int .u8 v.pr, .int .u32 v.ii, .int .u16 v.ip, .int .u32 v.oi, .int .u16 v.fr, .int .u16 v.to, .int .u16 v.dr] 36)).alloc (.cells #[.int .u8 0, .int .u32 0, .int .u16 0, .int .u32 0, .int .u16 0, .int .i64 0, .int .i64 0] 44)).alloc (.cells #[.bool false] 4)) = W4 at T4 B4 ⊢
  have kt := fun X => pz_tried_ v HV.out HM.out X
  have en : ∀ args w, (callFunc 48 args).run Try.prog w = .ok (.enter 48 args) w := enters_of Try.func48 (by kernel_rfl) rfl
  have S4 : W0.heap.size + 4 ≤ W4.heap.size := T4.sz
  apply range_any (gf := 48) (va := #[.agg #[.int .u8 v.pr, .int .u32 v.ii, .int .u16 v.ip, .int .u32 v.oi, .int .u16 v.fr, .int .u16 v.to, .int .u16 v.dr]]) (lb := #[]) (m := 11) (enc := fun k : Int => Value.int .u16 k) (L := v.tried)
    (I := fun pre X => (∀ k ∈ pre, x.taken v.pr v.oi k = true) ∧ FiS X W0.heap.size p v Ro.zero false ∧ Below W0.heap.size W0 X)
    (Ix := fun pre X => ∃ pre' k, pre = pre' ++ [k] ∧ (∀ a ∈ pre', x.taken v.pr v.oi a = true) ∧ x.taken v.pr v.oi k = false ∧ FiS X W0.heap.size p v (v.row k) true ∧ Below W0.heap.size W0 X)
  case hg => rfl
  case eg => exact en
  case hps => rfl
  case hseq => exact fun X _ _ => kt X
  case hI => exact fun pre A C h hb => ⟨h.1, h.2.1.below hb S4, h.2.2.trans (hb.mono (by omega))⟩
  case hIx => exact fun pre A C h hb => h.imp fun pre' h => h.imp fun k h => ⟨h.1, h.2.1, h.2.2.1, h.2.2.2.1.below hb S4, h.2.2.2.2.trans (hb.mono (by omega))⟩
  case h0 => exact ⟨fun k hk => absurd hk List.not_mem_nil, T4, B4⟩
  case hassign =>
    intro l1 y X K hK
    gi_wp2
    exact hK
  case hbody =>
    rintro l1 pre k X rfl hsz ⟨hj, ht, hb⟩ hpre
    have hk : v.fr ≤ k ∧ k ≤ v.to := (Wi.tried_mem HM.out HV.out.dr0).1 (hpre.subset (List.mem_append.2 (.inr (List.mem_singleton.2 rfl))))
    have he : EOk v.pr v.oi k := ⟨HV.out.pr0, HV.out.pr1, HV.out.oi0, HV.out.oi1, find_low HM.out hk, find_top HV.out hk⟩
    have E1 := EpB.made X v.oi k 34
    have b1 : Below X.heap.size X (X.alloc (.cells #[.int .u32 v.oi, .int .u16 k] 34)) := (Below.refl _ _).alloc (Nat.le_refl _) _
    have B5 := hb.trans (b1.mono hb.size)
    have ct := CallsIn.inRound (W4.heap.size + 1) (callsIn_wide (n := 10).2 (pz_taken_ (H.out.on B5) he))
    obtain ⟨_, w0, w1, w2, w3, w4, w5, w6⟩ := id ht.wi
    have c0 := ht.c
    obtain ⟨_, v0, v1, v2, v3, v4, v5, v6⟩ := id (ht.wi.on b1)
    have c1 := (ht.below b1 (Nat.le_trans S4 (Nat.le_trans (Nat.le_add_right _ _) hsz))).c
    have e0 := E1.c0
    have e1 := E1.c1
    have HQ := Lib.hid (And.intro hj (And.intro ht (And.intro hb (And.intro b1 E1))))
    have HP := Lib.hid hpre
    have HZ := Lib.hid hsz
    have TK : Hid (x.taken v.pr v.oi k = (x.ofO v.pr v.oi k).isSome) := rfl
    clear hj ht hb hpre he hk B5 b1 E1 hsz
    gi_wp2_with fail
    refine ⟨trivial, ?_⟩
    refine ct.mono ?_
    rintro e Y ⟨rfl, by_⟩
    have BY := HQ.out.2.2.2.1.trans (by_.mono HQ.out.2.2.2.1.size)
    have HY := Lib.hid (HQ.out.2.2.1.trans (BY.mono HQ.out.2.2.1.size))
    have TY := HQ.out.2.1.below BY (Nat.le_trans S4 (Nat.le_trans (Nat.le_add_right _ _) HZ.out))
    have AB := Lib.hid (Above.of (b := W4.heap.size) BY)
    have EY := HQ.out.2.2.2.2.on by_
    cases hq : (x.ofO v.pr v.oi k).isSome with
    | true =>
      have QT := Lib.hid TY
      have HK := Lib.hid (show ∀ a ∈ pre ++ [k], x.taken v.pr v.oi a = true from fun a ha => by
        rcases List.mem_append.1 ha with ha | ha
        · exact HQ.out.1 a ha
        · rw [List.mem_singleton.1 ha, TK.out]; exact hq)
      clear TY EY by_ BY hq ct
      gi_wp2_with fail
      exact ⟨AB.out, HK.out, QT.out, HY.out⟩
    | false =>
      have HK := Lib.hid (show x.taken v.pr v.oi k = false by rw [TK.out]; exact hq)
      obtain ⟨_, s0, s1, s2, s3, s4, s5, s6⟩ := id TY.wi
      obtain ⟨_, z0, z1, z2, z3, z4, z5, z6, zf⟩ := id TY.ro
      simp only [Ro.zero] at z0 z1 z2 z3 z4 z5 z6
      have o0 := TY.ok
      have o1 := TY.fr
      have g0 := EY.c0
      have g1 := EY.c1
      have QT := Lib.hid TY
      clear TY EY by_ BY hq ct
      clear w0 w1 w2 w3 w4 w5 w6 c0 v0 v1 v2 v3 v4 v5 v6 c1 e0 e1
      gi_wp2_with fail
      refine row_set (r := v.row k) QT.out.ro fun Z hZ bZ => ?_
      obtain ⟨TZ, BZ⟩ := QT.out.rows (b' := true) hZ bZ
      have AZ := above_two (n := W4.heap.size) BZ (by omega) (by omega)
      have HB := BZ.after HY.out HY.out.size (fun k _ e => by rcases e with e | e <;> omega)
      clear z0 z1 z2 z3 z4 z5 z6 zf s0 s1 s2 s3 s4 s5 s6 o0 o1 g0 g1
      gi_wp2_with fail
      exact ⟨AB.out.trans AZ, _, k, rfl, HQ.out.1, HK.out, TZ, HB⟩
  case hstop =>
    rintro D pre X rfl hpre ⟨pre', k, rfl, h1, h2, ht, hb⟩ hd
    have FR : Hid (x.free v = some k) := find_pre hpre (fun a ha => by rw [h1 a ha]; rfl) (by rw [h2]; rfl)
    have b9 := below_putObj (b := W4.heap.size) X (.deferred none) (Nat.le_refl _) hd
    have tz := ht.below b9 S4
    have bz := hb.trans (b9.mono (by omega))
    gi_wp2_with fail
    obtain ⟨_, z0, z1, z2, z3, z4, z5, z6, zf⟩ := id tz.ro
    have o0 := tz.ok
    refine ⟨by simp, .inl ⟨_, _, rfl, run_takeDeferred hd, ⟨rowV (some (v.row k)), ?_, ?_⟩⟩⟩
    · simp [results, Try.results34, go_sem, z0, z1, z2, z3, z4, z5, z6, o0, rowV]
    · exact ⟨by rw [FR.out]; rfl, bz⟩
  case hdone =>
    rintro D X rfl ⟨hj, ht, hb⟩ hd
    have FR : Hid (x.free v = none) := List.find?_eq_none.2 fun a ha => by rw [hj a ha]; decide
    have hD : W4.heap.size < X.heap.size := (Array.getElem?_eq_some_iff.1 hd).1
    obtain ⟨_, z0, z1, z2, z3, z4, z5, z6, zf⟩ := id ht.ro
    simp only [Ro.zero] at z0 z1 z2 z3 z4 z5 z6
    have o0 := ht.ok
    have o1 := ht.fr
    have QT := Lib.hid ht
    have HB := Lib.hid hb
    have HD := Lib.hid (And.intro hd hD)
    clear ht hb hd hD hj
    gi_wp2_with fail
    refine row_set (r := Ro.zero) QT.out.ro fun Z hZ bZ => ?_
    obtain ⟨TZ, BZ⟩ := QT.out.rows (b' := false) hZ bZ
    have hd2 := (BZ.block W4.heap.size HD.out.2 (fun e => by rcases e with e | e <;> omega)).trans HD.out.1
    have HZ := BZ.after HB.out HB.out.size (fun k _ e => by rcases e with e | e <;> omega)
    have b9 := below_putObj (b := W4.heap.size) _ (.deferred none) (Nat.le_refl _) hd2
    have tz := TZ.below b9 S4
    have bz := HZ.trans (b9.mono (by omega))
    clear z0 z1 z2 z3 z4 z5 z6 o0 o1
    obtain ⟨_, z0, z1, z2, z3, z4, z5, z6, zf⟩ := id tz.ro
    simp only [Ro.zero] at z0 z1 z2 z3 z4 z5 z6
    have o0 := tz.ok
    refine ⟨by simp, .inl ⟨_, _, rfl, run_takeDeferred hd2, ⟨rowV none, ?_, ?_⟩⟩⟩
    · simp [results, Try.results34, go_sem, z0, z1, z2, z3, z4, z5, z6, o0, rowV, Ro.zero]
    · exact ⟨by rw [FR.out]; rfl, bz⟩
end
end Go.Proofs.Ytbbadpidolfleaa

namespace Go.Proofs.Ytbbadpidolfleaa
set_option linter.unusedVariables false
set_option maxRecDepth 100000
set_option linter.unusedSimpArgs false
open Go.ChangeShapes Go.WideShapes Go.ChangeAt Go.RowKit Go.PlainAid
attribute [local go_sem ↓] Go.wp_at_zero Go.wp_at_succ
theorem take_bad {x : Po} {v : Wi} (h : ¬ v.may) : x.take v = (((0, 0), 2), x) := by unfold Po.take; rw [if_neg h]
theorem take_have {x : Po} {v : Wi} {r : Ro} (h : v.may) (hi : x.ofI v.pr v.ii v.ip = some r) (hf : (r.oi == v.oi && v.hasB r.op) = false) : x.take v = (((0, 0), 7), x) := by
  unfold Po.take
  rw [if_pos h, hi]
  simp only []
  rw [if_neg]
  intro e
  have : (r.oi == v.oi && v.hasB r.op) = true := by rw [Bool.and_eq_true]; exact ⟨beq_iff_eq.2 e.1, (v.hasB_iff _).2 e.2⟩
  rw [hf] at this
  cases this
theorem take_hold {x : Po} {v : Wi} {r : Ro} (h : v.may) (hi : x.ofI v.pr v.ii v.ip = some r) (hf : (r.oi == v.oi && v.hasB r.op) = true) : x.take v = (((r.oi, r.op), 0), x.hold v.pr v.ii v.ip) := by
  unfold Po.take
  rw [if_pos h, hi]
  simp only []
  rw [Bool.and_eq_true] at hf
  rw [if_pos ⟨beq_iff_eq.1 hf.1, (v.hasB_iff _).1 hf.2⟩]
theorem take_new {x : Po} {v : Wi} {k : Int} (h : v.may) (hi : x.ofI v.pr v.ii v.ip = none) (hf : x.free v = some k) : x.take v = (((v.oi, k), 0), ⟨Po.ins x.l ⟨v.pr, v.oi, k, v.ii, v.ip, 0, 1⟩⟩) := by
  unfold Po.take
  rw [if_pos h, hi]
  simp only []
  rw [hf]
theorem take_full {x : Po} {v : Wi} (h : v.may) (hi : x.ofI v.pr v.ii v.ip = none) (hf : x.free v = none) : x.take v = (((0, 0), 8), x) := by
  unfold Po.take
  rw [if_pos h, hi]
  simp only []
  rw [hf]
section
variable {w w' : World} {p rb ob : Nat} {x x' : Po}
set_option maxHeartbeats 4000000 in
/-- (*Ports).Take. -/
theorem pz_take_ (h : PzI w p rb ob x) (few : x.Few 1000) {v : Wi} (hv : WOk v) : Calls Try.prog 11 #[.pointer (some ⟨p, 0, none⟩), .agg #[.int .u8 v.pr, .int .u32 v.ii, .int .u16 v.ip, .int .u32 v.oi, .int .u16 v.fr, .int .u16 v.to, .int .u16 v.dr]] w fun e w' => e = .returned (.tuple #[.agg #[.int .u32 (x.take v).1.1.1, .int .u16 (x.take v).1.1.2], .int .i64 ((x.take v).1.2 : Int)]) ∧ PzI w' p rb ob (x.take v).2 ∧ Beside (pzS p rb ob) w w' := by
  have H := Lib.hid h
  have HF := Lib.hid few
  have HOK := Lib.hid h.ok
  have HV := Lib.hid hv
  clear h few hv
  generalize hY : x.take v = Y
  obtain ⟨⟨⟨ri, rp⟩, n⟩, y⟩ := Y
  simp only []
  have HY := Lib.hid hY
  clear hY
  go_enter Try.func11, Try.ntmps11
  go_upto_region 1 with fail
  have A1 := (WiB.made w v 36).on ((Below.refl _ _).alloc (Nat.le_refl _) (.cells #[.int .u32 0, .int .u16 0] 34))
  have E1 := EpB.made (w.alloc (.cells #[.int .u8 v.pr, .int .u32 v.ii, .int .u16 v.ip, .int .u32 v.oi, .int .u16 v.fr, .int .u16 v.to, .int .u16 v.dr] 36)) 0 0 34
  have hz : (w.alloc (.cells #[.int .u8 v.pr, .int .u32 v.ii, .int .u16 v.ip, .int .u32 v.oi, .int .u16 v.fr, .int .u16 v.to, .int .u16 v.dr] 36)).heap.size = w.heap.size + 1 := by simp
  rw [hz] at E1
  have B1 : Below w.heap.size w ((w.alloc (.cells #[.int .u8 v.pr, .int .u32 v.ii, .int .u16 v.ip, .int .u32 v.oi, .int .u16 v.fr, .int .u16 v.to, .int .u16 v.dr] 36)).alloc (.cells #[.int .u32 0, .int .u16 0] 34)) := ((Below.refl _ _).alloc (Nat.le_refl _) _).alloc (by simp) _
  have H1 := H.out.on B1
  clear hz
  generalize ((w.alloc (.cells #[.int .u8 v.pr, .int .u32 v.ii, .int .u16 v.ip, .int .u32 v.oi, .int .u16 v.fr, .int .u16 v.to, .int .u16 v.dr] 36)).alloc (.cells #[.int .u32 0, .int .u16 0] 34)) = w1 at A1 E1 B1 H1 ⊢
  have kn := pz_none_ H1
  have km := fun u => pz_may_ v u
  obtain ⟨_, a0, a1, a2, a3, a4, a5, a6⟩ := id A1
  have BB := Lib.hid B1
  have HH := Lib.hid H1
  have HA := Lib.hid A1
  have HE := Lib.hid E1
  clear A1 B1 H1 E1
  by_cases hm : v.may
  · have t1 : decide v.may = true := decide_eq_true hm
    simp only [t1] at km
    have HM := Lib.hid hm
    clear hm t1
    go_upto_region 5 with (first | (go_at_call 29; refine kn.mono ?_; rintro e w2 ⟨rfl, hw⟩; obtain rfl : w1 = w2 := hw.symm) | (go_at_call 32; refine (km _).mono ?_; rintro e w2 ⟨rfl, b2⟩))
    clear a0 a1 a2 a3 a4 a5 a6 kn km
    have A2 := HA.out.on b2
    have E2 := HE.out.on b2
    have H2 := HH.out.on b2
    have B2 := BB.out.trans (b2.mono BB.out.size)
    have L2 := Nat.lt_of_lt_of_le HE.out.lt b2.size
    clear b2 HA HE HH BB
    have ko := pz_of_ H2 (pr := v.pr) (ii := v.ii) (ip := v.ip) ⟨HV.out.pr0, HV.out.pr1, HV.out.ii0, HV.out.ii1, HV.out.ip0, HV.out.ip1⟩
    obtain ⟨_, a0, a1, a2, a3, a4, a5, a6⟩ := id A2
    have HQ := Lib.hid (And.intro A2 (And.intro E2 (And.intro H2 (And.intro B2 L2))))
    clear A2 E2 H2 B2 L2
    unfold rowV at ko
    cases hi : x.ofI v.pr v.ii v.ip with
    | some r =>
      rw [hi] at ko
      simp only [Option.getD_some, Option.isSome_some] at ko
      obtain ⟨hr, q1, q2, q3⟩ := Po.ofI_some hi
      have HR := Lib.hid (And.intro hr (And.intro q1 (And.intro q2 q3)))
      have HI := Lib.hid hi
      clear hr q1 q2 q3 hi
      go_upto_region 6 with (go_at_call 14; refine ko.mono ?_; rintro e w3 ⟨rfl, b3⟩)
      clear a0 a1 a2 a3 a4 a5 a6 ko
      have R4 := RowB.made w3 r 44
      have b4 := b3.trans ((Below.refl _ _).alloc b3.size (.cells #[.int .u8 r.pr, .int .u32 r.oi, .int .u16 r.op, .int .u32 r.ii, .int .u16 r.ip, .int .i64 (r.lv : Int), .int .i64 (r.hd : Int)] 44))
      have A4 := HQ.out.1.on b4
      have E4 := HQ.out.2.1.on b4
      have H4 := HQ.out.2.2.1.on b4
      have B4 := HQ.out.2.2.2.1.trans (b4.mono HQ.out.2.2.2.1.size)
      have L4 := Nat.lt_of_lt_of_le HQ.out.2.2.2.2 b3.size
      clear b3 b4 HQ
      generalize w3.alloc (.cells #[.int .u8 r.pr, .int .u32 r.oi, .int .u16 r.op, .int .u32 r.ii, .int .u16 r.ip, .int .i64 (r.lv : Int), .int .i64 (r.hd : Int)] 44) = w4 at R4 A4 E4 H4 B4 ⊢
      generalize w3.heap.size = c at R4 L4 ⊢
      obtain ⟨_, a0, a1, a2, a3, a4, a5, a6⟩ := id A4
      obtain ⟨_, z0, z1, z2, z3, z4, z5, z6, zf⟩ := id R4
      have kf := pz_fits_ v r.oi r.op w4
      have HQ := Lib.hid (And.intro A4 (And.intro E4 (And.intro H4 (And.intro B4 (And.intro L4 R4)))))
      clear A4 E4 H4 B4 L4 R4
      cases hf : (r.oi == v.oi && v.hasB r.op) with
      | true =>
        rw [hf] at kf
        have HV2 := Lib.hid (HY.out.symm.trans (take_hold HM.out HI.out hf))
        clear hf
        go_upto_region 8 with (go_at_call 33; refine kf.mono ?_; rintro e w5 ⟨rfl, b5⟩)
        clear a0 a1 a2 a3 a4 a5 a6 z0 z1 z2 z3 z4 z5 z6 zf kf
        have L : Laid x (x.hold v.pr v.ii v.ip) { r with hd := r.hd + 1 } := by
          have L := laid_hold HOK.out HR.out.1
          have e : x.hold r.pr r.ii r.ip = x.hold v.pr v.ii v.ip := by rw [HR.out.2.1, HR.out.2.2.1, HR.out.2.2.2]
          rw [e] at L
          exact L
        have hd1 : r.hd ≤ 1000 := by have := HF.out.by_ r HR.out.1; omega
        have R5 := HQ.out.2.2.2.2.2.on b5
        have E5 := HQ.out.2.1.on b5
        have H5 := HQ.out.2.2.1.on b5
        have B5 := HQ.out.2.2.2.1.trans (b5.mono HQ.out.2.2.2.1.size)
        have kh := pz_hold_ H5 HF.out.len (HOK.out.low r HR.out.1) hd1 L
        have nc : ¬ pzS p rb ob c := fun e => by have := H.out.lt c e; have := HQ.out.2.2.2.2.1; omega
        have ne : ¬ pzS p rb ob (w.heap.size + 1) := fun e => by have := H.out.lt _ e; omega
        obtain ⟨_, z0, z1, z2, z3, z4, z5, z6, zf⟩ := id R5
        have QN := Lib.hid (And.intro nc ne)
        have HQ5 := Lib.hid (And.intro R5 (And.intro E5 B5))
        clear L hd1 R5 E5 H5 B5 b5 nc ne HQ
        go_wp2_with (go_at_call 35; refine kh.mono ?_; rintro e w6 ⟨⟨u, rfl⟩, h6, b6⟩; have R6 := HQ5.out.1.by b6 QN.out.1; have E6 := HQ5.out.2.1.by b6 QN.out.2; obtain ⟨_, y0, y1, y2, y3, y4, y5, y6, yf⟩ := id R6; obtain ⟨_, x0, x1, xf⟩ := id E6; have HE6 := Lib.hid E6; clear R6 E6)
        clear z0 z1 z2 z3 z4 z5 z6 zf x0 x1 xf
        refine ep_ (i := r.oi) (p := r.op) HE6.out fun X hX bX => ?_
        obtain ⟨_, x0, x1, _⟩ := id hX
        have HB := (Beside.of HQ5.out.2.2 : Beside (pzS p rb ob) w w5).trans b6 |>.seq bX (fun i hi e => by omega)
        have HX := h6.keep bX.size (fun k hk => bX.block k (h6.lt k hk) (fun e => QN.out.2 (e ▸ hk)))
        clear hX bX y0 y1 y2 y3 y4 y5 y6 yf kh
        go_wp2
        refine bodyPost_ret (v := .tuple #[.agg #[.int .u32 r.oi, .int .u16 r.op], .int .i64 0]) (by simp [results, Try.results11, go_sem, x0, x1]) rfl ?_
        have hv := HV2.out
        injection hv with hv1 hv2
        injection hv1 with hv1 hv3
        injection hv1 with hv4 hv5
        rw [hv2, hv3, hv4, hv5]
        exact ⟨rfl, HX, HB⟩
      | false =>
        rw [hf] at kf
        have HV2 := Lib.hid (HY.out.symm.trans (take_have HM.out HI.out hf))
        clear hf
        go_upto_region 7 with (go_at_call 33; refine kf.mono ?_; rintro e w5 ⟨rfl, b5⟩)
        have E5 := HQ.out.2.1.on b5
        have HE := Lib.hid E5
        have BB := Lib.hid (HQ.out.2.2.2.1.trans (b5.mono HQ.out.2.2.2.1.size))
        clear a0 a1 a2 a3 a4 a5 a6 z0 z1 z2 z3 z4 z5 z6 zf kf E5 HQ b5
        obtain ⟨_, x0, x1, xf⟩ := id HE.out
        go_wp2
        clear x0 x1 xf
        refine ep_ (i := 0) (p := 0) HE.out fun X9 hX bX => ?_
        have B9 := one_box BB.out bX (Nat.le_succ _) BB.out.size
        obtain ⟨_, x0, x1, _⟩ := id hX
        go_wp2
        refine bodyPost_ret (v := .tuple #[.agg #[.int .u32 0, .int .u16 0], .int .i64 7]) (by simp [results, Try.results11, go_sem, x0, x1]) rfl ?_
        have hv := HV2.out
        injection hv with hv1 hv2
        injection hv1 with hv1 hv3
        injection hv1 with hv4 hv5
        rw [hv2, hv3, hv4, hv5]
        exact ⟨rfl, H.out.on B9, Beside.of B9⟩
    | none =>
      rw [hi] at ko
      simp only [Option.getD_none, Option.isSome_none, Ro.zero] at ko
      have HI := Lib.hid hi
      clear hi
      go_upto_region 6 with (go_at_call 14; refine ko.mono ?_; rintro e w3 ⟨rfl, b3⟩)
      clear a0 a1 a2 a3 a4 a5 a6 ko
      have R4 := RowB.none w3 44
      have b4 := b3.trans ((Below.refl _ _).alloc b3.size (.cells #[.int .u8 0, .int .u32 0, .int .u16 0, .int .u32 0, .int .u16 0, .int .i64 0, .int .i64 0] 44))
      have A4 := HQ.out.1.on b4
      have E4 := HQ.out.2.1.on b4
      have H4 := HQ.out.2.2.1.on b4
      have B4 := HQ.out.2.2.2.1.trans (b4.mono HQ.out.2.2.2.1.size)
      have L4 := Nat.lt_of_lt_of_le HQ.out.2.2.2.2 b3.size
      clear b3 b4 HQ
      generalize w3.alloc (.cells #[.int .u8 0, .int .u32 0, .int .u16 0, .int .u32 0, .int .u16 0, .int .i64 0, .int .i64 0] 44) = w4 at R4 A4 E4 H4 B4 ⊢
      generalize w3.heap.size = c at R4 L4 ⊢
      obtain ⟨_, a0, a1, a2, a3, a4, a5, a6⟩ := id A4
      have kf := pz_find_ H4 HV.out HM.out
      have HQ := Lib.hid (And.intro E4 (And.intro H4 (And.intro B4 (And.intro L4 R4))))
      clear A4 E4 H4 B4 L4 R4
      unfold rowV at kf
      cases hf : x.free v with
      | some k =>
        rw [hf] at kf
        simp only [Option.map_some, Option.getD_some, Option.isSome_some, Wi.row] at kf
        have HV2 := Lib.hid (HY.out.symm.trans (take_new HM.out HI.out hf))
        have hk := Po.free_some hf
        have hin := (Wi.tried_mem HM.out HV.out.dr0).1 hk.1
        have L : Laid x ⟨Po.ins x.l ⟨v.pr, v.oi, k, v.ii, v.ip, 0, 1⟩⟩ ⟨v.pr, v.oi, k, v.ii, v.ip, 0, 1⟩ := laid_ins HOK.out (t := ⟨v.pr, v.oi, k, v.ii, v.ip, 0, 1⟩) hk.2 HI.out (Po.row_ok HV.out HM.out hin) (by show 0 < 0 + 1; omega)
        have LL := Lib.hid L
        have OK := Lib.hid (Po.row_ok HV.out HM.out hin)
        clear hf hk hin L
        go_upto_region 10 with (go_at_call 34; refine kf.mono ?_; rintro e w5 ⟨rfl, b5⟩; have R5 := HQ.out.2.2.2.2.on b5; obtain ⟨_, z0, z1, z2, z3, z4, z5, z6, zf⟩ := id R5; simp only [Ro.zero] at z0 z1 z2 z3 z4 z5 z6; have HR5 := Lib.hid R5; clear R5)
        clear a0 a1 a2 a3 a4 a5 a6 kf z0 z1 z2 z3 z4 z5 z6 zf
        refine row_ (r := ⟨v.pr, v.oi, k, v.ii, v.ip, 0, 0⟩) HR5.out fun X hX bX => ?_
        have E5 := HQ.out.1.on b5
        have H5 := HQ.out.2.1.on b5
        have B5 := HQ.out.2.2.1.trans (b5.mono HQ.out.2.2.1.size)
        have lc : w.heap.size + 1 < c := HQ.out.2.2.2.1
        have B6 := one_box B5 bX (by omega) B5.size
        have E6 := E5.by bX (by omega)
        have H6 := H5.keep bX.size (fun j hj => bX.block j (H5.lt j hj) (fun e => by have := H.out.lt j hj; omega))
        obtain ⟨_, z0, z1, z2, z3, z4, z5, z6, zf⟩ := id hX
        simp only [] at z0 z1 z2 z3 z4 z5 z6
        have kh := pz_hold_ H6 HF.out.len (r := ⟨v.pr, v.oi, k, v.ii, v.ip, 0, 0⟩) ⟨OK.out.pr0, OK.out.pr1, OK.out.oi0, OK.out.oi1, OK.out.op0, OK.out.op1, OK.out.ii0, OK.out.ii1, OK.out.ip0, OK.out.ip1⟩ (Nat.zero_le _) LL.out
        simp only [] at kh
        have nc : ¬ pzS p rb ob c := fun e => by have := H.out.lt c e; omega
        have ne : ¬ pzS p rb ob (w.heap.size + 1) := fun e => by have := H.out.lt _ e; omega
        have QN := Lib.hid (And.intro nc ne)
        have HQ5 := Lib.hid (And.intro hX (And.intro E6 B6))
        clear hX bX E5 H5 B5 lc B6 E6 H6 nc ne HQ HR5 b5
        go_wp2_with (go_at_call 35; refine kh.mono ?_; rintro e w6 ⟨⟨u, rfl⟩, h6, b6⟩; have R6 := HQ5.out.1.by b6 QN.out.1; have E6 := HQ5.out.2.1.by b6 QN.out.2; obtain ⟨_, y0, y1, y2, y3, y4, y5, y6, yf⟩ := id R6; obtain ⟨_, x0, x1, xf⟩ := id E6; have HE6 := Lib.hid E6; clear R6 E6)
        clear z0 z1 z2 z3 z4 z5 z6 zf x0 x1 xf
        refine ep_ (i := v.oi) (p := k) HE6.out fun Y hY bY => ?_
        obtain ⟨_, x0, x1, _⟩ := id hY
        have HB := (Beside.of HQ5.out.2.2 : Beside (pzS p rb ob) w X).trans b6 |>.seq bY (fun i hi e => by omega)
        have HX := h6.keep bY.size (fun j hj => bY.block j (h6.lt j hj) (fun e => QN.out.2 (e ▸ hj)))
        clear hY bY y0 y1 y2 y3 y4 y5 y6 yf kh
        go_wp2
        refine bodyPost_ret (v := .tuple #[.agg #[.int .u32 v.oi, .int .u16 k], .int .i64 0]) (by simp [results, Try.results11, go_sem, x0, x1]) rfl ?_
        have hv := HV2.out
        injection hv with hv1 hv2
        injection hv1 with hv1 hv3
        injection hv1 with hv4 hv5
        rw [hv2, hv3, hv4, hv5]
        exact ⟨rfl, HX, HB⟩
      | none =>
        rw [hf] at kf
        simp only [Option.map_none, Option.getD_none, Option.isSome_none, Ro.zero] at kf
        have HV2 := Lib.hid (HY.out.symm.trans (take_full HM.out HI.out hf))
        clear hf
        go_upto_region 10 with (go_at_call 34; refine kf.mono ?_; rintro e w5 ⟨rfl, b5⟩; have R5 := HQ.out.2.2.2.2.on b5; obtain ⟨_, z0, z1, z2, z3, z4, z5, z6, zf⟩ := id R5; simp only [Ro.zero] at z0 z1 z2 z3 z4 z5 z6; have HR5 := Lib.hid R5; clear R5)
        clear a0 a1 a2 a3 a4 a5 a6 kf z0 z1 z2 z3 z4 z5 z6 zf
        refine row_ (r := Ro.zero) HR5.out fun X hX bX => ?_
        have E5 := HQ.out.1.on b5
        have B5 := HQ.out.2.2.1.trans (b5.mono HQ.out.2.2.1.size)
        have lc : w.heap.size + 1 < c := HQ.out.2.2.2.1
        have BB := Lib.hid (one_box B5 bX (by omega) B5.size)
        have HE := Lib.hid (E5.by bX (by omega))
        obtain ⟨_, x0, x1, xf⟩ := id HE.out
        clear hX bX E5 B5 lc HQ HR5 b5
        go_wp2
        clear x0 x1 xf
        refine ep_ (i := 0) (p := 0) HE.out fun X9 hX bX => ?_
        have B9 := one_box BB.out bX (Nat.le_succ _) BB.out.size
        obtain ⟨_, x0, x1, _⟩ := id hX
        go_wp2
        refine bodyPost_ret (v := .tuple #[.agg #[.int .u32 0, .int .u16 0], .int .i64 8]) (by simp [results, Try.results11, go_sem, x0, x1]) rfl ?_
        have hv := HV2.out
        injection hv with hv1 hv2
        injection hv1 with hv1 hv3
        injection hv1 with hv4 hv5
        rw [hv2, hv3, hv4, hv5]
        exact ⟨rfl, H.out.on B9, Beside.of B9⟩
  · have HV2 := Lib.hid (HY.out.symm.trans (take_bad hm))
    have t1 : decide v.may = false := decide_eq_false hm
    simp only [t1] at km
    clear hm t1
    go_upto_region 4 with (first | (go_at_call 29; refine kn.mono ?_; rintro e w2 ⟨rfl, hw⟩; obtain rfl : w1 = w2 := hw.symm) | (go_at_call 32; refine (km _).mono ?_; rintro e w2 ⟨rfl, b2⟩))
    clear a0 a1 a2 a3 a4 a5 a6 kn km
    have HE2 := HE.out.on b2
    have B2 := BB.out.trans (b2.mono BB.out.size)
    clear BB HE HH HA b2
    have BB := Lib.hid B2
    have HE := Lib.hid HE2
    clear B2 HE2
    obtain ⟨_, x0, x1, xf⟩ := id HE.out
    go_wp2
    clear x0 x1 xf
    refine ep_ (i := 0) (p := 0) HE.out fun X9 hX bX => ?_
    have B9 := one_box BB.out bX (Nat.le_succ _) BB.out.size
    obtain ⟨_, x0, x1, _⟩ := id hX
    go_wp2
    refine bodyPost_ret (v := .tuple #[.agg #[.int .u32 0, .int .u16 0], .int .i64 2]) (by simp [results, Try.results11, go_sem, x0, x1]) rfl ?_
    have hv := HV2.out
    injection hv with hv1 hv2
    injection hv1 with hv1 hv3
    injection hv1 with hv4 hv5
    rw [hv2, hv3, hv4, hv5]
    exact ⟨rfl, H.out.on B9, Beside.of B9⟩
end
end Go.Proofs.Ytbbadpidolfleaa
