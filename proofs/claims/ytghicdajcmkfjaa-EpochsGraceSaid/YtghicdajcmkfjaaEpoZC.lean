/- The code's epochs (layer 14): a method value handed to slices.ContainsFunc; Advance. -/
import Derived.Test.YtghicdajcmkfjaaEpoZB
import Derived.Shelf.Abstract
namespace Go.Proofs.Ytghicdajcmkfjaa
set_option linter.unusedVariables false
set_option linter.unusedSimpArgs false
open Go.ChangeShapes Go.WideShapes Go.ChangeAt Go.RowKit Go.PlainAid
attribute [local go_sem ↓] Go.wp_at_zero Go.wp_at_succ
/-- The place of the first of a list that fits; -1: none does. -/
def placeL {α : Type} (l : List α) (p : α → Bool) : Int := if l.any p = true then ((l.findIdx p : Nat) : Int) else -1
theorem placeL_hit {α : Type} {l : List α} {p : α → Bool} {d : α} {i : Nat} (h : i < l.length) (hn : ∀ j, j < i → p (l.getD j d) = false) (hf : p (l.getD i d) = true) : placeL l p = (i : Int) := by
  rw [List.getD_eq_getElem?_getD, List.getElem?_eq_getElem h] at hf
  have ha : l.any p = true := List.any_eq_true.2 ⟨l[i], List.getElem_mem h, by simpa using hf⟩
  unfold placeL
  rw [if_pos ha]
  congr 1
  refine (List.findIdx_eq h).2 ⟨by simpa using hf, fun j hj => ?_⟩
  have := hn j hj
  rw [List.getD_eq_getElem?_getD, List.getElem?_eq_getElem (by omega)] at this
  simpa using this
theorem placeL_none {α : Type} {l : List α} {p : α → Bool} {d : α} (hn : ∀ j, j < l.length → p (l.getD j d) = false) : placeL l p = -1 := by
  have ha : l.any p = false := by
    refine List.any_eq_false.2 fun x hx => ?_
    obtain ⟨k, hk, rfl⟩ := List.mem_iff_getElem.1 hx
    have := hn k hk
    rw [List.getD_eq_getElem?_getD, List.getElem?_eq_getElem hk] at this
    simpa using this
  unfold placeL
  rw [ha]
  rfl
theorem placeL_any {α : Type} (l : List α) (p : α → Bool) : decide (0 ≤ placeL l p) = l.any p := by
  unfold placeL
  cases h : l.any p with
  | true => rw [if_pos rfl]; exact decide_eq_true (Int.natCast_nonneg _)
  | false => rfl
/-- What a method value tells of numbers, in whatever world is behind. -/
def PredI (g : Nat) (v : Value) (p : Int → Bool) (zs : List Int) (w : World) : Prop := ∀ (W : World) (s : Int), Below w.heap.size w W → s ∈ zs → Calls Try.prog g #[v, .int .i64 s] W fun e w' => e = .returned (.bool (p s)) ∧ Below W.heap.size W w'
theorem PredI.on {g : Nat} {v : Value} {p : Int → Bool} {zs : List Int} {w w' : World} (h : PredI g v p zs w) (hb : Below w.heap.size w w') : PredI g v p zs w' := fun W r hW hr => h W r (hb.trans (hW.mono hb.size)) hr
theorem int_lt {i n : Nat} (h : i < n) : decide ((i : Int) < (n : Int)) = true ∧ (i : Int) < (n : Int) ∧ (0 : Int) ≤ (i : Int) := ⟨by simpa using h, Int.ofNat_lt.2 h, Int.natCast_nonneg _⟩
set_option maxHeartbeats 4000000 in
set_option maxRecDepth 100000 in
theorem indexI_ (g : Nat) (v : Value) (p : Int → Bool) (b n cap : Nat) (zs : List Int) (w : World) (eg : ∀ args w, (callFunc g args).run Try.prog w = .ok (.enter g args) w) (hn : n = zs.length) (hb : b < w.heap.size) (hR : ∀ k, k < zs.length → w.cell? ⟨b, k, none⟩ = some (.int .i64 (zs.getD k (-1)))) (hl : zs.length ≤ 1000) (hp : PredI g v p zs w) :
    Calls Try.prog 40 #[.slice (some ⟨b, 0, none⟩) n cap, .func (.func g) #[v] #[]] w fun e w' => e = .returned (.int .i64 (placeL zs p)) ∧ Below w.heap.size w w' := by
  subst hn
  have RZ := Lib.hid hR
  have HL := Lib.hid hl
  have HP := Lib.hid hp
  have HB := Lib.hid hb
  clear hR hl hp hb
  go_enter Try.func40, Try.ntmps40
  go_wp2
  go_loopw [5, 8] (fun s5 s8 wr => ∃ i : Nat, i ≤ zs.length ∧ s8 = .int .i64 (i : Int) ∧ Below w.heap.size w wr ∧ Hid (∀ j, j < i → p (zs.getD j (-1)) = false)) (fun _ s8 _ => zs.length - (intOf s8).toNat)
  case atStart => exact ⟨0, Nat.zero_le _, rfl, Below.refl _ _, fun j hj => absurd hj (Nat.not_lt_zero j)⟩
  case round =>
    obtain ⟨i, hi, rfl, bb, HF⟩ := hrel
    have EW := Lib.hid (step_14 (j := i) (Nat.lt_of_le_of_lt (Nat.le_trans hi HL.out) (by decide)))
    by_cases hlt : i < zs.length
    · have HI := Lib.hid hlt
      obtain ⟨e10, e12, e13⟩ := int_lt hlt
      have c0 := (bb.cell (p := ⟨b, i, none⟩) HB.out).trans (RZ.out i hlt)
      have hm : zs.getD i (-1) ∈ zs := by simp [List.getD, hlt]
      obtain ⟨r, hr⟩ : ∃ r, r = zs.getD i (-1) := ⟨_, rfl⟩
      rw [← hr] at c0 hm
      have hcall := HP.out wr r bb hm
      have HR := Lib.hid hr
      clear hr hi hlt hm
      cases hq : p r with
      | true =>
        rw [hq] at hcall
        have HV : Hid (placeL zs p = (i : Int)) := placeL_hit HI.out HF.out (by rw [← HR.out]; exact hq)
        clear hq
        go_wp2_with (go_at_fn g; refine hcall.mono ?_; rintro e w' ⟨rfl, hb'⟩)
        go_ret
        exact ⟨by rw [HV.out]; rfl, bb.trans (hb'.mono bb.size)⟩
      | false =>
        rw [hq] at hcall
        have HQ := Lib.hid hq
        clear hq
        go_wp2_with (go_at_fn g; refine hcall.mono ?_; rintro e w' ⟨rfl, hb'⟩)
        have BN := bb.trans (hb'.mono bb.size)
        go_roundw
        case rel =>
          refine ⟨i + 1, HI.out, by simp [EW.out], BN, fun j hj => ?_⟩
          by_cases e : j = i
          · rw [e, ← HR.out]; exact HQ.out
          · exact HF.out j (by omega)
        case measure => first | exact step_meas14 EW.out (step_less14 HI.out) | (simp [EW.out]; exact step_less14 HI.out) | exact step_less14 HI.out
    · obtain rfl : i = zs.length := Nat.le_antisymm hi (Nat.le_of_not_lt hlt)
      have t1 : decide ((zs.length : Int) < (zs.length : Int)) = false := by simp
      have HV : Hid (placeL zs p = -1) := placeL_none HF.out
      clear hlt hi
      go_wp2
      go_ret
      exact ⟨by rw [HV.out]; rfl, bb⟩
set_option maxHeartbeats 4000000 in
set_option maxRecDepth 100000 in
theorem containsI_ (g : Nat) (v : Value) (p : Int → Bool) (b n cap : Nat) (zs : List Int) (w : World) (eg : ∀ args w, (callFunc g args).run Try.prog w = .ok (.enter g args) w) (hn : n = zs.length) (hb : b < w.heap.size) (hR : ∀ k, k < zs.length → w.cell? ⟨b, k, none⟩ = some (.int .i64 (zs.getD k (-1)))) (hl : zs.length ≤ 1000) (hp : PredI g v p zs w) :
    Calls Try.prog 33 #[.slice (some ⟨b, 0, none⟩) n cap, .func (.func g) #[v] #[]] w fun e w' => e = .returned (.bool (zs.any p)) ∧ Below w.heap.size w w' := by
  have ci := indexI_ g v p b n cap zs w eg hn hb hR hl hp
  have HV := Lib.hid (placeL_any zs p)
  generalize placeL zs p = z at ci HV
  clear hR hp hb hl eg hn
  go_enter Try.func33, Try.ntmps33
  go_wp2_with fail
  refine ci.mono ?_; rintro e w1 ⟨rfl, b1⟩
  go_wp2
  go_ret
  rw [← HV.out]
  exact ⟨rfl, b1⟩
/-- Whether a worker that announced this holds the epoch up. -/
def Ep.holds (x : Ep) (s : Int) : Bool := s != -1 && s != (x.now : Int)
theorem Ep.any_holds {x : Ep} (h : x.Ok) : x.said.any x.holds = x.held := by
  unfold Ep.held
  have key : ∀ s ∈ x.said, x.holds s = decide (0 ≤ s ∧ s ≠ x.now) := by
    intro s hs
    unfold Ep.holds
    rcases h.sd s hs with rfl | ⟨h0, _, _⟩
    · rfl
    · have e1 : (s != -1) = true := bne_iff_ne.2 (by omega)
      rw [e1, Bool.true_and]
      by_cases e : s = (x.now : Int)
      · subst e; simp
      · have : (s != (x.now : Int)) = true := bne_iff_ne.2 e
        rw [this]
        exact (decide_eq_true ⟨h0, e⟩).symm
  revert key
  generalize x.said = l
  intro key
  induction l with
  | nil => rfl
  | cons a l ih =>
    rw [List.any_cons, List.any_cons, key a (List.mem_cons_self ..), ih fun s hs => key s (List.mem_cons_of_mem _ hs)]
set_option maxHeartbeats 1000000 in
set_option maxRecDepth 100000 in
theorem holds14_ (x : Ep) (p : Nat) (s : Int) (w : World) (c0 : w.cell? ⟨p, 0, none⟩ = some (.int .i64 (x.now : Int))) : Calls Try.prog 34 #[.pointer (some ⟨p, 0, none⟩), .int .i64 s] w fun e w' => e = .returned (.bool (x.holds s)) ∧ Below w.heap.size w w' := by
  unfold Ep.holds
  cases h1 : (s != -1) with
  | true =>
    go_enter Try.func34, Try.ntmps34
    go_wp2
    go_ret
    exact ⟨rfl, Below.refl _ _⟩
  | false =>
    clear c0
    go_enter Try.func34, Try.ntmps34
    go_wp2
    go_ret
    exact ⟨rfl, Below.refl _ _⟩
set_option maxHeartbeats 2000000 in
set_option maxRecDepth 100000 in
theorem advance14_ (S p x) (w : World) (H : EpCR w S p x) (hb : x.now < 4611686018427387904) : Told Try.prog epC 15 #[.pointer (some ⟨p, 0, none⟩)] w S p (.bool (!x.held)) x.advT := by
  have HR := Lib.hid H
  obtain ⟨vs, vl, H⟩ := H
  obtain ⟨g, c, rfl, hg⟩ := own_block H.rs H.ok.pos
  have c1 := H.c1
  have eg : ∀ args w, (callFunc 34 args).run Try.prog w = .ok (.enter 34 args) w := enters_of Try.func34 (by kernel_rfl) rfl
  have cc := containsI_ 34 (.pointer (some ⟨p, 0, none⟩)) x.holds g x.said.length c x.said w eg rfl hg (fun k hk => (World.ownsRow.cellAt H.rs k (by simpa [valsI] using hk)).trans (valsI_at _ _ hk _)) (Nat.le_trans H.ok.le (by decide)) (fun W s hW hs => holds14_ x p s W (H.on hW).c0)
  rw [Ep.any_holds H.ok] at cc
  have HH := Lib.hid H
  clear H eg
  show Calls _ _ _ _ _
  cases hh : x.held with
  | true =>
    rw [hh] at cc
    have e : x.advT = x := by unfold Ep.advT; rw [hh]; rfl
    rw [e]
    clear e hb
    go_enter Try.func15, Try.ntmps15
    go_wp2_with fail
    refine (none14_ S p x _ HR.out).mono ?_; rintro e w1 ⟨rfl, rfl⟩
    go_wp2_with fail
    refine cc.mono ?_; rintro e w1 ⟨rfl, b1⟩
    go_wp2
    go_ret
    exact ⟨rfl, S, epC.on HR.out b1, Fresh.refl _ _, Beside.of b1⟩
  | false =>
    rw [hh] at cc
    have q1 : wrap64 ((x.now : Int) + 1) = ((x.now + 1 : Nat) : Int) := step_14 hb
    have q2 : IntKind.i64.wrap ((x.now : Int) + 1) = ((x.now + 1 : Nat) : Int) := by rw [IntWalk.i64_in _ (by omega)]; omega
    have Q := Lib.hid (And.intro q1 q2)
    have HX := Lib.hid hh
    clear hb q1 q2 hh
    go_enter Try.func15, Try.ntmps15
    go_wp2_with fail
    refine (none14_ S p x _ HR.out).mono ?_; rintro e w1 ⟨rfl, rfl⟩
    go_wp2_with fail
    refine cc.mono ?_; rintro e w1 ⟨rfl, b1⟩
    clear c1
    have H1 := HH.out.on b1
    have c0 := H1.c0
    have f0 := H1.f 0
    have HB := Lib.hid (H1.bump HX.out)
    obtain ⟨q1, q2⟩ := Q.out
    clear H1
    generalize x.now + 1 = N1 at q1 q2 HB
    go_wp2
    go_ret
    exact ⟨rfl, S, ⟨_, _, HB.out.1⟩, Fresh.refl _ _, (Beside.of b1).trans HB.out.2⟩
set_option maxHeartbeats 1000000 in
set_option maxRecDepth 100000 in
theorem advance14N_ (v : Value) (w : World) (H : NoC w v) : Calls Try.prog 15 #[v] w fun e w' => e = .returned (.bool false) ∧ w = w' := by
  go_enter Try.func15, Try.ntmps15
  go_wp2_with fail
  refine (none14N_ v _ H).mono ?_; rintro e w1 ⟨rfl, rfl⟩
  go_wp2
  go_ret
  exact ⟨rfl, rfl⟩
end Go.Proofs.Ytghicdajcmkfjaa
