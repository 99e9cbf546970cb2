/- Texts of this proof, together: IcmpP, IcmpQ, IcmpA, IcmpB, IcmpM. -/
import Derived.Test.YtbpicngbjggblaaGreatDoorGh
import Derived.Test.YtbpicngbjggblaaGreatDoorTake
import Derived.Test.YtbpicngbjggblaaGreatDoorGc
import Derived.Test.YtbpicngbjggblaaGreatDoorGf
import Derived.Test.YtbpicngbjggblaaGreatDoorGb
import Derived.Deep.RegionHeld3
namespace Go.Proofs.YtbpicngbjggblaaGreatDoor
set_option linter.unusedVariables false
set_option linter.unusedSimpArgs false
open Go.ChangeShapes Go.WideShapes Go.ChangeAt Go.RowKit Go.PlainAid
/-- A text that is a message, and what it says. -/
def mOk (s : ByteArray) : Bool := decide (8 ≤ s.size)
def mI (s : ByteArray) (v : Int) : Int := if mOk s then v else 0
def mR (s : ByteArray) : ByteArray := if mOk s then s.extract 4 8 else ⟨#[]⟩
def mD (s : ByteArray) : ByteArray := if mOk s then s.extract 8 s.size else ⟨#[]⟩
/-- A message's bytes; why it can't be put. -/
def icB (ty co su : Int) (r d : ByteArray) : ByteArray := strOfNums (wordL [256 * ty + co, su]) ++ r ++ d
def icE (n : Nat) : Int := if n = 4 then 0 else 2
def icP (ty co su : Int) (r d : ByteArray) : ByteArray := if r.size = 4 then icB ty co su r d else ⟨#[]⟩
def ckM (s : ByteArray) : Bool := decide (8 ≤ s.size) && holdsV [s]
def slC (s : ByteArray) : Int := sumV [zeroB s 2]
def slI (s : ByteArray) : ByteArray := if s.size < 8 then s else s.extract 0 2 ++ strOfNums (wordL [slC s]) ++ s.extract 4 s.size
def qAsk (ty co : Int) : Bool := decide (co = 0) && (decide (ty = 8) || decide (ty = 13))
def qIs (ty co : Int) : Bool := decide (co = 0) && (decide (ty = 8) || decide (ty = 13) || decide (ty = 0) || decide (ty = 14))
def erM (ty : Int) : Bool := decide (ty = 3) || decide (ty = 11) || decide (ty = 12)
def idM (r : ByteArray) : Int := if 2 ≤ r.size then g16 r 0 else 0
def wiM (r : ByteArray) (id : Int) : ByteArray := if 2 ≤ r.size then strOfNums (wordL [id]) ++ r.extract 2 r.size else r
theorem mOk_yes {s : ByteArray} (h : mOk s = true) : 8 ≤ s.size ∧ (∀ v, mI s v = v) ∧ mR s = s.extract 4 8 ∧ mD s = s.extract 8 s.size := by
  have h' := h
  unfold mOk at h'
  simp only [decide_eq_true_eq] at h'
  refine ⟨h', fun v => ?_, ?_, ?_⟩
  · unfold mI; rw [if_pos h]
  · unfold mR; rw [if_pos h]
  · unfold mD; rw [if_pos h]
theorem mOk_no {s : ByteArray} (h : mOk s = false) : (∀ v, mI s v = 0) ∧ mR s = ⟨#[]⟩ ∧ mD s = ⟨#[]⟩ := by
  refine ⟨fun v => ?_, ?_, ?_⟩
  · unfold mI; rw [if_neg (by rw [h]; decide)]
  · unfold mR; rw [if_neg (by rw [h]; decide)]
  · unfold mD; rw [if_neg (by rw [h]; decide)]
theorem idM_bd (r : ByteArray) : 0 ≤ idM r ∧ idM r ≤ 65535 := by
  have := g16_nonneg r 0; have := g16_le r 0
  unfold idM; split <;> omega
theorem wiM_size (r : ByteArray) (id : Int) : (wiM r id).size = r.size := by
  unfold wiM
  split
  · rw [ByteArray.size_append, size_W, size_extract' r 2 r.size (by omega) (Nat.le_refl _)]; show 2 * 1 + _ = _; omega
  · rfl
theorem icB_parts (ty co su : Int) (r d : ByteArray) (t0 : 0 ≤ ty) (t1 : ty ≤ 255) (c0 : 0 ≤ co) (c1 : co ≤ 255) (s0 : 0 ≤ su) (s1 : su ≤ 65535) (hr : r.size = 4) :
    (icB ty co su r d).size = 8 + d.size ∧ bt (icB ty co su r d) 0 = ty ∧ bt (icB ty co su r d) 1 = co ∧ g16 (icB ty co su r d) 2 = su ∧ (icB ty co su r d).extract 4 8 = r ∧ (icB ty co su r d).extract 8 (icB ty co su r d).size = d := by
  have hw : ∀ n ∈ [256 * ty + co, su], 0 ≤ n ∧ n ≤ 65535 := by intro n hn; simp at hn; omega
  have g0 := g16_W _ hw 0
  have g1 := g16_W _ hw 1
  rw [show ([256 * ty + co, su] : List Int).getD 0 0 = 256 * ty + co from rfl, Nat.mul_zero] at g0
  rw [show ([256 * ty + co, su] : List Int).getD 1 0 = su from rfl, Nat.mul_one] at g1
  have zH : (strOfNums (wordL [256 * ty + co, su])).size = 4 := by rw [size_W]; rfl
  have e : icB ty co su r d = strOfNums (wordL [256 * ty + co, su]) ++ (r ++ d) := by unfold icB; rw [ByteArray.append_assoc]
  have e2 : icB ty co su r d = strOfNums (wordL [256 * ty + co, su]) ++ r ++ d := rfl
  have k0 : g16 (icB ty co su r d) 0 = 256 * ty + co := by rw [e, g16_app_l _ _ _ (by rw [zH]; omega), g0]
  have k1 : g16 (icB ty co su r d) 2 = su := by rw [e, g16_app_l _ _ _ (by rw [zH]; omega), g1]
  have zz : (icB ty co su r d).size = 8 + d.size := by rw [e2, ByteArray.size_append, ByteArray.size_append, zH, hr]
  refine ⟨zz, ?_, ?_, k1, ?_, ?_⟩
  · rw [bt_hi, k0]; omega
  · have := bt_lo (icB ty co su r d) 0
    rw [Nat.zero_add] at this
    rw [this, k0]; omega
  · have := ext_app_r (strOfNums (wordL [256 * ty + co, su])) (r ++ d) 0 r.size
    rw [zH, Nat.add_zero, hr, ← e] at this
    rw [show 4 + 4 = 8 from rfl] at this
    rw [this, ← hr, ext_app_l]
  · have := ext_app_r (strOfNums (wordL [256 * ty + co, su]) ++ r) d 0 d.size
    rw [ByteArray.size_append, zH, hr, Nat.add_zero, ← e2, ext_all] at this
    rw [zz]; exact this
theorem icP_yes (ty co su : Int) (r d : ByteArray) (h : r.size = 4) : icP ty co su r d = icB ty co su r d := by unfold icP; rw [if_pos h]
end Go.Proofs.YtbpicngbjggblaaGreatDoor
namespace Go.Proofs.YtbpicngbjggblaaGreatDoor
set_option maxHeartbeats 4000000
set_option maxRecDepth 100000
set_option linter.unusedVariables false
set_option linter.unusedSimpArgs false
open Go.ChangeShapes Go.WideShapes Go.ChangeAt Go.RowKit Go.PlainAid
attribute [local go_sem ↓] Go.wp_at_zero Go.wp_at_succ
theorem rparse7_ (s : ByteArray) (w : World) (hs : s.size ≤ 1000000) :
    Cw_ 70 #[.string s] (.tuple #[.agg #[.int .u8 (mI s (bt s 0)), .int .u8 (mI s (bt s 1)), .int .u16 (mI s (g16 s 2)), .string (mR s), .string (mD s)], .bool (mOk s)]) w := by
  have hs2 : s.size ≤ maxLen := by unfold maxLen; omega
  have hb := get_bt s
  by_cases h8 : s.size < 8
  · have hk : mOk s = false := by unfold mOk; simp; omega
    obtain ⟨y1, y2, y3⟩ := mOk_no hk
    rw [y1, y1, y1, y2, y3, hk]
    have e1 : decide ((s.size : Int) < 8) = true := by simp; omega
    clear h8 hk y1 y2 y3 hb
    go_enter Tryz.func70, Tryz.ntmps70
    go_wp2
    refine bodyPost_ret (v := .tuple #[.agg #[.int .u8 0, .int .u8 0, .int .u16 0, .string ⟨#[]⟩, .string ⟨#[]⟩], .bool false]) (by simp [results, Tryz.results70, go_sem]) rfl ?_
    exact ⟨rfl, (Below.refl _ _).alloc (Nat.le_refl _) _⟩
  have e1 : decide ((s.size : Int) < 8) = false := by simp; omega
  have hk : mOk s = true := by unfold mOk; simp; omega
  obtain ⟨_, y1, y2, y3⟩ := mOk_yes hk
  rw [y1, y1, y1, y2, y3, hk]
  have c2 := fun u => rget16_yes s 2 u hs2 (by omega)
  have i0 : (0 : Int) < (s.size : Int) := by omega
  have i1 : (1 : Int) < (s.size : Int) := by omega
  have i8 : (8 : Int) ≤ (s.size : Int) := by omega
  generalize g16 s 2 = v2 at *
  clear h8 hk y1 y2 y3
  go_enter Tryz.func70, Tryz.ntmps70
  go_wp2_with fail
  refine (c2 _).mono ?_; rintro e w1 ⟨rfl, rfl⟩
  go_wp2_with fail
  obtain ⟨w1, hw1⟩ : ∃ w1, w1 = w.alloc (.cells #[.int .u8 0, .int .u8 0, .int .u16 0, .string ⟨#[]⟩, .string ⟨#[]⟩] 81) := ⟨_, rfl⟩
  rw [← hw1]
  refine region_lead (B := w1.heap.size) 10 2 (by kernel_rfl) (by kernel_rfl) (by kernel_rfl) (by kernel_rfl) ?_
  simp only [List.take_succ_cons, List.take_zero]
  repeat (go_big_quiet_step (fail))
  refine lead_tail (fin := #[true, true, true, true, true, true, true, true, true, true, false, false]) (by kernel_rfl) fun f w3 b3 => ?_
  subst hw1
  obtain ⟨hc, hf⟩ := bcell4_ b3
  have hz : w.heap.size < w3.heap.size := by have := b3.size; simp at this; omega
  have B3 : Below w.heap.size w w3 := ((Below.refl _ _).alloc (Nat.le_refl _) _).trans (b3.mono (by simp))
  have hz2 := B3.size
  refine wpAny_ready (rs := [10]) (by kernel_rfl) (by simp) (AllReady.cons rfl (fun K hK => ?_) AllReady.nil)
  go_simp
  refine hK _ _ ?_
  clear hK K
  refine box5_ (b := w.heap.size) (box5_is rfl hc) B3 (Nat.le_refl _) fun w9 x0 x1 x2 x3 x4 B9 _ _ => ?_
  clear hc hf b3 B3
  refine wpAny_ready (rs := [11]) (by kernel_rfl) (by simp) (AllReady.cons rfl (fun K hK => ?_) AllReady.nil)
  go_simp
  refine hK _ _ ?_
  clear hK K
  refine wpAny_done (by kernel_rfl) ?_ _
  go_wp2
  refine bodyPost_ret (v := .tuple #[.agg #[.int .u8 (bt s 0), .int .u8 (bt s 1), .int .u16 v2, .string (s.extract 4 8), .string (s.extract 8 s.size)], .bool true]) (by simp [results, Tryz.results70, go_sem, x0, x1, x2, x3, x4]) rfl ?_
  exact ⟨rfl, B9⟩
theorem rput7_ (ty co su : Int) (r d : ByteArray) (w : World) (t0 : 0 ≤ ty) (t1 : ty ≤ 255) (c0 : 0 ≤ co) (c1 : co ≤ 255) (s0 : 0 ≤ su) (s1 : su ≤ 65535) (hr : r.size ≤ 1000000) (hd : d.size ≤ 1000000) :
    Cw_ 59 #[.agg #[.int .u8 ty, .int .u8 co, .int .u16 su, .string r, .string d]] (.tuple #[.string (icP ty co su r d), .int .i64 (icE r.size)]) w := by
  obtain ⟨n, hn⟩ : ∃ n, r.size = n := ⟨_, rfl⟩
  rw [hn] at hr
  by_cases h4 : n = 4
  rotate_left
  · have HV : Hid (icP ty co su r d = ⟨#[]⟩) := by show _ = _; unfold icP; rw [if_neg (by omega)]
    have HE : Hid (icE r.size = 2) := by show _ = _; unfold icE; rw [if_neg (by omega)]
    have e1 : ((n : Int) != 4) = true := by simp; omega
    clear h4
    go_enter Tryz.func59, Tryz.ntmps59
    go_wp2
    go_ret2
    rw [HE.out, HV.out]
    exact ⟨rfl, (Below.refl _ _).alloc (Nat.le_refl _) _⟩
  have e1 : ((n : Int) != 4) = false := by simp; omega
  have HE : Hid (icE r.size = 0) := by show _ = _; unfold icE; rw [if_pos (by omega)]
  have HV : Hid (icP ty co su r d = strOfNums [ty, co] ++ strOfNums (wordL [su]) ++ r ++ d) := by
    show _ = _
    unfold icP icB
    rw [if_pos (by omega), strOfNums_append]
    simp only [wordL, List.flatMap_cons, List.flatMap_nil, List.append_nil, List.cons_append, List.nil_append]
    rw [show (256 * ty + co) / 256 = ty by omega, show (256 * ty + co) % 256 = co by omega]
  have cp := fun u => rput16 su u s0 s1
  have cv := fun W : World => conv2 W W.heap.size ty co rfl
  have cvd := fun W : World => conv2d W ty co
  have z1 : (strOfNums [ty, co]).size = 2 := by rw [strOfNums_size]; rfl
  have z2 : (strOfNums (wordL [su])).size = 2 := by rw [size_W]; rfl
  obtain ⟨U1, hU1⟩ : ∃ U1, strOfNums [ty, co] = U1 := ⟨_, rfl⟩
  rw [hU1] at z1 HV
  simp only [hU1] at cv cvd
  have HU := Lib.hid hU1
  clear hU1
  generalize strOfNums (wordL [su]) = U2 at *
  have q1 : ¬ 9223372036854775807 < U1.size + U2.size := by omega
  have q2 : ¬ 9223372036854775807 < U1.size + U2.size + n := by omega
  have q3 : ¬ 9223372036854775807 < U1.size + U2.size + n + d.size := by omega
  clear z1 z2 h4
  go_enter Tryz.func59, Tryz.ntmps59
  go_wp2_with fail
  have A0 := Box5.make w (.int .u8 ty) (.int .u8 co) (.int .u16 su) (.string r) (.string d) 81
  have B0 : Below w.heap.size w (w.alloc (.cells #[.int .u8 ty, .int .u8 co, .int .u16 su, .string r, .string d] 81)) := (Below.refl _ _).alloc (Nat.le_refl _) _
  obtain ⟨w1, hw1⟩ : ∃ x, x = w.alloc (.cells #[.int .u8 ty, .int .u8 co, .int .u16 su, .string r, .string d] 81) := ⟨_, rfl⟩
  rw [← hw1] at A0 B0 ⊢
  clear hw1
  have MK := Lib.hid (show ∀ w', Below w1.heap.size w1 w' → w'.cell? ⟨w.heap.size, 0, none⟩ = some (.int .u8 ty) ∧ w'.cell? ⟨w.heap.size, 1, none⟩ = some (.int .u8 co) ∧ w'.cell? ⟨w.heap.size, 2, none⟩ = some (.int .u16 su) ∧ w'.cell? ⟨w.heap.size, 3, none⟩ = some (.string r) ∧ w'.cell? ⟨w.heap.size, 4, none⟩ = some (.string d) ∧ Below w1.heap.size w1 w' from
    fun w' h => by obtain ⟨_, y0, y1, y2, y3, y4⟩ := A0.on h; exact ⟨y0, y1, y2, y3, y4, h⟩)
  -- the last region by hand
  refine wp_region_noPanic ?_
  refine wp_region_held_drew (S := (fun w' => w'.cell? ⟨w.heap.size, 0, none⟩ = some (.int .u8 ty) ∧ w'.cell? ⟨w.heap.size, 1, none⟩ = some (.int .u8 co) ∧ w'.cell? ⟨w.heap.size, 2, none⟩ = some (.int .u16 su) ∧ w'.cell? ⟨w.heap.size, 3, none⟩ = some (.string r) ∧ w'.cell? ⟨w.heap.size, 4, none⟩ = some (.string d) ∧ Below w1.heap.size w1 w')) (by kernel_rfl) (MK.out _ (Below.refl _ _).drew) (fun hS => ?_)
  refine tk_ 0 (v := ?_) (by assumption) ?_ ?_
  rotate_left
  · intro w hSw
    obtain ⟨h0, h1, h2, h3, h4, _⟩ := hSw
    go_simp
    with_reducible rfl
  try simp only [List.getElem_toArray, List.getElem_cons_succ, List.getElem_cons_zero, Act.put, puS_]
  refine tk_ 1 (v := ?_) (by assumption) ?_ ?_
  rotate_left
  · intro w hSw
    obtain ⟨h0, h1, h2, h3, h4, _⟩ := hSw
    go_simp
    with_reducible rfl
  try simp only [List.getElem_toArray, List.getElem_cons_succ, List.getElem_cons_zero, Act.put, puS_]
  refine tk_ 2 (v := ?_) (by assumption) ?_ ?_
  rotate_left
  · intro w hSw
    obtain ⟨h0, h1, h2, h3, h4, _⟩ := hSw
    go_simp
    with_reducible rfl
  try simp only [List.getElem_toArray, List.getElem_cons_succ, List.getElem_cons_zero, Act.put, puS_]
  refine tk_ 3 (v := ?_) (by assumption) ?_ ?_
  rotate_left
  · intro w hSw
    obtain ⟨h0, h1, h2, h3, h4, _⟩ := hSw
    go_simp
    with_reducible rfl
  try simp only [List.getElem_toArray, List.getElem_cons_succ, List.getElem_cons_zero, Act.put, puS_]
  refine tk_ 6 (v := ?_) (by assumption) ?_ ?_
  rotate_left
  · intro w hSw
    obtain ⟨h0, h1, h2, h3, h4, _⟩ := hSw
    go_simp
    with_reducible rfl
  try simp only [List.getElem_toArray, List.getElem_cons_succ, List.getElem_cons_zero, Act.put, puS_]
  refine tk_ 7 (v := ?_) (by assumption) ?_ ?_
  rotate_left
  · intro w hSw
    obtain ⟨h0, h1, h2, h3, h4, _⟩ := hSw
    go_simp
    with_reducible rfl
  try simp only [List.getElem_toArray, List.getElem_cons_succ, List.getElem_cons_zero, Act.put, puS_]
  refine tk_ 10 (v := ?_) (by assumption) ?_ ?_
  rotate_left
  · intro w hSw
    obtain ⟨h0, h1, h2, h3, h4, _⟩ := hSw
    go_simp
    with_reducible rfl
  try simp only [List.getElem_toArray, List.getElem_cons_succ, List.getElem_cons_zero, Act.put, puS_]
  refine tk_ 11 (v := ?_) (by assumption) ?_ ?_
  rotate_left
  · intro w hSw
    obtain ⟨h0, h1, h2, h3, h4, _⟩ := hSw
    go_simp
    with_reducible rfl
  try simp only [List.getElem_toArray, List.getElem_cons_succ, List.getElem_cons_zero, Act.put, puS_]
  refine tk_ 13 (v := ?_) (by assumption) ?_ ?_
  rotate_left
  · intro w hSw
    obtain ⟨h0, h1, h2, h3, h4, _⟩ := hSw
    go_simp
    with_reducible rfl
  try simp only [List.getElem_toArray, List.getElem_cons_succ, List.getElem_cons_zero, Act.put, puS_]
  refine tk_ 14 (v := ?_) (by assumption) ?_ ?_
  rotate_left
  · intro w hSw
    obtain ⟨h0, h1, h2, h3, h4, _⟩ := hSw
    go_simp
    with_reducible rfl
  try simp only [List.getElem_toArray, List.getElem_cons_succ, List.getElem_cons_zero, Act.put, puS_]
  refine wpAnyH_ready (rs := [4, 8]) (by kernel_rfl) (by simp) ?_
  refine AllReadyH.cons (o := _) rfl (fun F hF => ?_) (AllReadyH.cons (o := _) rfl (fun F hF => ?_) AllReadyH.nil)
  · go_simp
    refine hF.out _ _ (MK.out _ (hS.2.2.2.2.2.alloc hS.2.2.2.2.2.size _)) (fun hA => ?_)
    clear hF F
    try simp only [List.getElem_toArray, List.getElem_cons_succ, List.getElem_cons_zero, Act.put, puS_]
    refine wpAnyH_ready (rs := [5, 8]) (by kernel_rfl) (by simp) ?_
    refine AllReadyH.cons (o := _) rfl (fun F hF => ?_) (AllReadyH.cons (o := _) rfl (fun F hF => ?_) AllReadyH.nil)
    · go_simp
      refine hF.out _ _ (hA) (fun hB => ?_)
      clear hF F
      try simp only [List.getElem_toArray, List.getElem_cons_succ, List.getElem_cons_zero, Act.put, puS_]
      refine wpAnyH_ready (rs := [8]) (by kernel_rfl) (by simp) ?_
      refine AllReadyH.cons (o := _) rfl (fun F hF => ?_) AllReadyH.nil
      go_simp
      refine (cp _).mono ?_
      rintro e w2 ⟨rfl, x2⟩
      show F _ _
      refine hF.out _ _ (MK.out _ (hA.2.2.2.2.2.trans (x2.mono hA.2.2.2.2.2.size))) (fun hC => ?_)
      clear hF F
      try simp only [List.getElem_toArray, List.getElem_cons_succ, List.getElem_cons_zero, Act.put, puS_]
      refine tk_ 9 (v := ?_) (by assumption) ?_ ?_
      rotate_left
      · intro w hSw
        obtain ⟨h0, h1, h2, h3, h4, _⟩ := hSw
        go_simp
        with_reducible rfl
      try simp only [List.getElem_toArray, List.getElem_cons_succ, List.getElem_cons_zero, Act.put, puS_]
      refine tk_ 12 (v := ?_) (by assumption) ?_ ?_
      rotate_left
      · intro w hSw
        obtain ⟨h0, h1, h2, h3, h4, _⟩ := hSw
        go_simp
        with_reducible rfl
      try simp only [List.getElem_toArray, List.getElem_cons_succ, List.getElem_cons_zero, Act.put, puS_]
      refine tk_ 15 (v := ?_) (by assumption) ?_ ?_
      rotate_left
      · intro w hSw
        obtain ⟨h0, h1, h2, h3, h4, _⟩ := hSw
        go_simp
        with_reducible rfl
      try simp only [List.getElem_toArray, List.getElem_cons_succ, List.getElem_cons_zero, Act.put, puS_]
      refine wpAnyH_ready (rs := [16]) (by kernel_rfl) (by simp) ?_
      refine AllReadyH.cons (o := _) rfl (fun F hF => ?_) AllReadyH.nil
      go_simp
      refine hF.out _ _ (hC) (fun hT => ?_)
      clear hF F
      try simp only [List.getElem_toArray, List.getElem_cons_succ, List.getElem_cons_zero, Act.put, puS_]
      refine wpAnyH_ready (rs := [17]) (by kernel_rfl) (by simp) ?_
      refine AllReadyH.cons (o := _) rfl (fun F hF => ?_) AllReadyH.nil
      go_simp
      refine hF.out _ _ (hC) (fun hT => ?_)
      clear hF F
      try simp only [List.getElem_toArray, List.getElem_cons_succ, List.getElem_cons_zero, Act.put, puS_]
      refine wpAnyH_done (by kernel_rfl) (NoPanic.normal ?_) _
      have B2 := B0.trans (hC.2.2.2.2.2.mono B0.size)
      clear hC hT MK A0 B0 cp
      go_wp2
      go_ret2
      rw [HE.out, HV.out]
      exact ⟨rfl, B2⟩
    · go_simp
      refine (cp _).mono ?_
      rintro e w2 ⟨rfl, x2⟩
      show F _ _
      refine hF.out _ _ (MK.out _ (hA.2.2.2.2.2.trans (x2.mono hA.2.2.2.2.2.size))) (fun hB => ?_)
      clear hF F
      try simp only [List.getElem_toArray, List.getElem_cons_succ, List.getElem_cons_zero, Act.put, puS_]
      refine wpAnyH_ready (rs := [5]) (by kernel_rfl) (by simp) ?_
      refine AllReadyH.cons (o := _) rfl (fun F hF => ?_) AllReadyH.nil
      have ck := conv2k x2
      rw [HU.out] at ck
      go_simp
      refine hF.out _ _ (hB) (fun hC => ?_)
      clear hF F
      try simp only [List.getElem_toArray, List.getElem_cons_succ, List.getElem_cons_zero, Act.put, puS_]
      refine tk_ 9 (v := ?_) (by assumption) ?_ ?_
      rotate_left
      · intro w hSw
        obtain ⟨h0, h1, h2, h3, h4, _⟩ := hSw
        go_simp
        with_reducible rfl
      try simp only [List.getElem_toArray, List.getElem_cons_succ, List.getElem_cons_zero, Act.put, puS_]
      refine tk_ 12 (v := ?_) (by assumption) ?_ ?_
      rotate_left
      · intro w hSw
        obtain ⟨h0, h1, h2, h3, h4, _⟩ := hSw
        go_simp
        with_reducible rfl
      try simp only [List.getElem_toArray, List.getElem_cons_succ, List.getElem_cons_zero, Act.put, puS_]
      refine tk_ 15 (v := ?_) (by assumption) ?_ ?_
      rotate_left
      · intro w hSw
        obtain ⟨h0, h1, h2, h3, h4, _⟩ := hSw
        go_simp
        with_reducible rfl
      try simp only [List.getElem_toArray, List.getElem_cons_succ, List.getElem_cons_zero, Act.put, puS_]
      refine wpAnyH_ready (rs := [16]) (by kernel_rfl) (by simp) ?_
      refine AllReadyH.cons (o := _) rfl (fun F hF => ?_) AllReadyH.nil
      go_simp
      refine hF.out _ _ (hB) (fun hT => ?_)
      clear hF F
      try simp only [List.getElem_toArray, List.getElem_cons_succ, List.getElem_cons_zero, Act.put, puS_]
      refine wpAnyH_ready (rs := [17]) (by kernel_rfl) (by simp) ?_
      refine AllReadyH.cons (o := _) rfl (fun F hF => ?_) AllReadyH.nil
      go_simp
      refine hF.out _ _ (hB) (fun hT => ?_)
      clear hF F
      try simp only [List.getElem_toArray, List.getElem_cons_succ, List.getElem_cons_zero, Act.put, puS_]
      refine wpAnyH_done (by kernel_rfl) (NoPanic.normal ?_) _
      have B2 := B0.trans (hB.2.2.2.2.2.mono B0.size)
      clear hB hT MK A0 B0 cp
      go_wp2
      go_ret2
      rw [HE.out, HV.out]
      exact ⟨rfl, B2⟩
  · go_simp
    refine (cp _).mono ?_
    rintro e w2 ⟨rfl, x2⟩
    show F _ _
    refine hF.out _ _ (MK.out _ (hS.2.2.2.2.2.trans (x2.mono hS.2.2.2.2.2.size))) (fun hA => ?_)
    clear hF F
    try simp only [List.getElem_toArray, List.getElem_cons_succ, List.getElem_cons_zero, Act.put, puS_]
    refine wpAnyH_ready (rs := [4]) (by kernel_rfl) (by simp) ?_
    refine AllReadyH.cons (o := _) rfl (fun F hF => ?_) AllReadyH.nil
    go_simp
    refine hF.out _ _ (MK.out _ (hA.2.2.2.2.2.alloc hA.2.2.2.2.2.size _)) (fun hB => ?_)
    clear hF F
    try simp only [List.getElem_toArray, List.getElem_cons_succ, List.getElem_cons_zero, Act.put, puS_]
    refine wpAnyH_ready (rs := [5]) (by kernel_rfl) (by simp) ?_
    refine AllReadyH.cons (o := _) rfl (fun F hF => ?_) AllReadyH.nil
    go_simp
    refine hF.out _ _ (hB) (fun hC => ?_)
    clear hF F
    try simp only [List.getElem_toArray, List.getElem_cons_succ, List.getElem_cons_zero, Act.put, puS_]
    refine tk_ 9 (v := ?_) (by assumption) ?_ ?_
    rotate_left
    · intro w hSw
      obtain ⟨h0, h1, h2, h3, h4, _⟩ := hSw
      go_simp
      with_reducible rfl
    try simp only [List.getElem_toArray, List.getElem_cons_succ, List.getElem_cons_zero, Act.put, puS_]
    refine tk_ 12 (v := ?_) (by assumption) ?_ ?_
    rotate_left
    · intro w hSw
      obtain ⟨h0, h1, h2, h3, h4, _⟩ := hSw
      go_simp
      with_reducible rfl
    try simp only [List.getElem_toArray, List.getElem_cons_succ, List.getElem_cons_zero, Act.put, puS_]
    refine tk_ 15 (v := ?_) (by assumption) ?_ ?_
    rotate_left
    · intro w hSw
      obtain ⟨h0, h1, h2, h3, h4, _⟩ := hSw
      go_simp
      with_reducible rfl
    try simp only [List.getElem_toArray, List.getElem_cons_succ, List.getElem_cons_zero, Act.put, puS_]
    refine wpAnyH_ready (rs := [16]) (by kernel_rfl) (by simp) ?_
    refine AllReadyH.cons (o := _) rfl (fun F hF => ?_) AllReadyH.nil
    go_simp
    refine hF.out _ _ (hB) (fun hT => ?_)
    clear hF F
    try simp only [List.getElem_toArray, List.getElem_cons_succ, List.getElem_cons_zero, Act.put, puS_]
    refine wpAnyH_ready (rs := [17]) (by kernel_rfl) (by simp) ?_
    refine AllReadyH.cons (o := _) rfl (fun F hF => ?_) AllReadyH.nil
    go_simp
    refine hF.out _ _ (hB) (fun hT => ?_)
    clear hF F
    try simp only [List.getElem_toArray, List.getElem_cons_succ, List.getElem_cons_zero, Act.put, puS_]
    refine wpAnyH_done (by kernel_rfl) (NoPanic.normal ?_) _
    have B2 := B0.trans (hB.2.2.2.2.2.mono B0.size)
    clear hB hT MK A0 B0 cp
    go_wp2
    go_ret2
    rw [HE.out, HV.out]
    exact ⟨rfl, B2⟩
theorem rseal7_ (s : ByteArray) (w : World) (hs : s.size ≤ 1000000) :
    Cw_ 60 #[.string s] (.string (slI s)) w := by
  have hs2 : s.size ≤ maxLen := by unfold maxLen; omega
  by_cases h8 : s.size < 8
  · have HV : Hid (slI s = s) := by show _ = _; unfold slI; rw [if_pos h8]
    have e1 : decide ((s.size : Int) < 8) = true := by simp; omega
    clear h8
    go_enter Tryz.func60, Tryz.ntmps60
    go_wp2
    go_ret
    rw [HV.out]
    exact ⟨rfl, Below.refl _ _⟩
  have e1 : decide ((s.size : Int) < 8) = false := by simp; omega
  have zx := size_extract' s 0 2 (by omega) (by omega)
  have zz := size_extract' s 4 s.size (by omega) (Nat.le_refl _)
  have hn : 0 ≤ slC s ∧ slC s ≤ 65535 := sumV_bd _
  have HV : Hid (slI s = s.extract 0 2 ++ strOfNums (wordL [slC s]) ++ s.extract 4 s.size) := by show _ = _; unfold slI; rw [if_neg h8]
  have hN : slC s = sumV [s.extract 0 2 ++ ⟨#[0, 0]⟩ ++ s.extract 4 s.size] := by unfold slC zeroB; rw [show strOfNums [0, 0] = ⟨#[0, 0]⟩ from rfl]
  have zZ : (s.extract 0 2 ++ ⟨#[0, 0]⟩ ++ s.extract 4 s.size).size = s.size := by rw [ByteArray.size_append, ByteArray.size_append, zx, zz]; show 2 - 0 + 2 + (s.size - 4) = s.size; omega
  obtain ⟨Z, hZ⟩ : ∃ Z, Z = s.extract 0 2 ++ ⟨#[0, 0]⟩ ++ s.extract 4 s.size := ⟨_, rfl⟩
  rw [← hZ] at hN zZ
  have HZ := Lib.hid hZ
  clear hZ
  have cs : ∀ (u : World) (k : Nat), k < u.heap.size → u.cell? ⟨k, 0, none⟩ = some (.string Z) → Calls Tryz.prog 42 #[.slice (some ⟨k, 0, none⟩) 1 1] u fun e w' => e = .returned (.int .u16 (slC s)) ∧ u = w' :=
    fun u k hk h0 => by rw [hN]; exact rsum_ _ 1 1 [Z] u (rowS1 hk h0 (by omega)) (by intro x hx; simp at hx; subst hx; unfold maxLen; omega)
  have i2 : (2 : Int) ≤ (s.size : Int) := by omega
  have i4 : (4 : Int) ≤ (s.size : Int) := by omega
  have k1 : ¬ 9223372036854775807 < min 2 s.size + 2 := by omega
  have k2 : ¬ 9223372036854775807 < min 2 s.size + 2 + (s.size - 4) := by omega
  have c16 := fun u => rput16 (slC s) u hn.1 hn.2
  have zw : (strOfNums (wordL [slC s])).size = 2 := by rw [size_W]; rfl
  generalize strOfNums (wordL [slC s]) = W at *
  have q1 : min 2 s.size + W.size ≤ 9223372036854775807 := by omega
  have q2 : min 2 s.size + W.size + (s.size - 4) ≤ 9223372036854775807 := by omega
  have q3 : ¬ 9223372036854775807 < min 2 s.size + W.size := by omega
  have q4 : ¬ 9223372036854775807 < min 2 s.size + W.size + (s.size - 4) := by omega
  obtain ⟨v, hv⟩ : ∃ v, v = slC s := ⟨_, rfl⟩
  rw [← hv] at c16 cs
  clear hv hn zZ zx zz h8 zw hN
  go_enter Tryz.func60, Tryz.ntmps60
  go_wp2_with fail
  go_region_held3 (fun w' => True) (trivial)
    ((first
      | (go_at_call 42
         refine (cs _ _ ?_ ?_).mono ?_
         · simp
         · simp [go_sem, HZ.out]
         rintro e w2 ⟨rfl, rfl⟩)))
  have B2 := ((Below.refl w.heap.size w).alloc (Nat.le_refl _) (.cells #[.string (s.extract 0 2 ++ ⟨#[0, 0]⟩ ++ s.extract 4 s.size)] 9)).drew
  clear cs HZ k1 k2
  obtain ⟨w2, hw2⟩ : ∃ x, x = (w.alloc (.cells #[.string (s.extract 0 2 ++ ⟨#[0, 0]⟩ ++ s.extract 4 s.size)] 9)).drew := ⟨_, rfl⟩
  rw [← hw2] at B2 ⊢
  clear hw2
  go_wp2_with fail
  refine region_later (B := w2.heap.size) (by kernel_rfl) (by kernel_rfl) ?_
  repeat (go_big_quiet_step (first
    | (go_at_call 41; exact later_of _ (Nat.le_refl _) (c16 _))))
  refine later_end fun w3 b3 => ?_
  have B3 := B2.trans (b3.mono B2.size)
  clear B2 b3 c16
  go_wp2
  go_ret
  rw [HV.out]
  exact ⟨rfl, B3⟩
theorem rquery7_ (ty co su : Int) (r d : ByteArray) (w : World) (t0 : 0 ≤ ty) (t1 : ty ≤ 255) (c0 : 0 ≤ co) (c1 : co ≤ 255) :
    Cw_ 73 #[.agg #[.int .u8 ty, .int .u8 co, .int .u16 su, .string r, .string d]] (.tuple #[.bool (qAsk ty co), .bool (qIs ty co)]) w := by
  have HA := Lib.hid (show qAsk ty co = (decide (co = 0) && (decide (ty = 8) || decide (ty = 13))) from rfl)
  have HI := Lib.hid (show qIs ty co = (decide (co = 0) && (decide (ty = 8) || decide (ty = 13) || decide (ty = 0) || decide (ty = 14))) from rfl)
  have key : ∃ a b c d e : Bool, (co != 0) = !a ∧ (ty == 8) = b ∧ (ty == 13) = c ∧ (ty == 0) = d ∧ (ty == 14) = e ∧ decide (co = 0) = a ∧ decide (ty = 8) = b ∧ decide (ty = 13) = c ∧ decide (ty = 0) = d ∧ decide (ty = 14) = e := by
    refine ⟨decide (co = 0), decide (ty = 8), decide (ty = 13), decide (ty = 0), decide (ty = 14), ?_, ?_, ?_, ?_, ?_, rfl, rfl, rfl, rfl, rfl⟩ <;> simp [bne, BEq.beq]
  obtain ⟨a, b, c, dd, e, k1, k2, k3, k4, k5, l1, l2, l3, l4, l5⟩ := key
  have HA2 : Hid (qAsk ty co = (a && (b || c))) := by show _ = _; rw [HA.out, l1, l2, l3]
  have HI2 : Hid (qIs ty co = (a && (b || c || dd || e))) := by show _ = _; rw [HI.out, l1, l2, l3, l4, l5]
  clear l1 l2 l3 l4 l5 HA HI
  have B0 : Below w.heap.size w (w.alloc (.cells #[.int .u8 ty, .int .u8 co, .int .u16 su, .string r, .string d] 81)) := (Below.refl _ _).alloc (Nat.le_refl _) _
  cases a <;> cases b <;> cases c <;> cases dd <;> cases e <;> simp only [Bool.not_true, Bool.not_false] at k1
  all_goals
    go_enter Tryz.func73, Tryz.ntmps73
    go_wp2
    go_ret2
    rw [HA2.out, HI2.out]
    exact ⟨rfl, B0⟩
theorem rerror7_ (ty co su : Int) (r d : ByteArray) (w : World) (t0 : 0 ≤ ty) (t1 : ty ≤ 255) :
    Cw_ 118 #[.agg #[.int .u8 ty, .int .u8 co, .int .u16 su, .string r, .string d]] (.bool (erM ty)) w := by
  have key : ∃ a b c : Bool, (ty == 3) = a ∧ (ty == 11) = b ∧ (ty == 12) = c ∧ Hid (erM ty = (a || b || c)) := by
    refine ⟨decide (ty = 3), decide (ty = 11), decide (ty = 12), ?_, ?_, ?_, Lib.hid rfl⟩ <;> simp [BEq.beq]
  obtain ⟨a, b, c, k1, k2, k3, HE⟩ := key
  have B0 : Below w.heap.size w (w.alloc (.cells #[.int .u8 ty, .int .u8 co, .int .u16 su, .string r, .string d] 81)) := (Below.refl _ _).alloc (Nat.le_refl _) _
  cases a <;> cases b <;> cases c
  all_goals
    go_enter Tryz.func118, Tryz.ntmps118
    go_wp2
    go_ret
    rw [HE.out]
    exact ⟨rfl, B0⟩
theorem rid7_ (ty co su : Int) (r d : ByteArray) (w : World) (hr : r.size ≤ 1000000) :
    Cw_ 119 #[.agg #[.int .u8 ty, .int .u8 co, .int .u16 su, .string r, .string d]] (.int .u16 (idM r)) w := by
  have HV : Hid (v16 r 0 = idM r) := by
    show _ = _
    unfold v16 idM okAt
    by_cases h : 2 ≤ r.size
    · rw [if_pos h, if_pos (by simp; omega)]; rfl
    · rw [if_neg h, if_neg (by simp; omega)]
  have c2 := fun u => rget16_any r 0 u (by unfold maxLen; omega)
  generalize v16 r 0 = v at *
  generalize okAt r 0 2 = k at *
  go_enter Tryz.func119, Tryz.ntmps119
  go_wp2_with fail
  refine (c2 _).mono ?_; rintro e w2 ⟨rfl, rfl⟩
  go_wp2
  go_ret
  rw [HV.out]
  exact ⟨rfl, (Below.refl _ _).alloc (Nat.le_refl _) _⟩
end Go.Proofs.YtbpicngbjggblaaGreatDoor
namespace Go.Proofs.YtbpicngbjggblaaGreatDoor
set_option maxHeartbeats 2000000
set_option maxRecDepth 100000
set_option linter.unusedVariables false
set_option linter.unusedSimpArgs false
open Go.ChangeShapes Go.WideShapes Go.ChangeAt Go.RowKit Go.PlainAid
attribute [local go_sem ↓] Go.wp_at_zero Go.wp_at_succ
theorem rwith7_ (ty co su : Int) (r d : ByteArray) (k : Int) (w : World) (i0 : 0 ≤ k) (i1 : k ≤ 65535) (hr : r.size ≤ 1000000) :
    Cw_ 112 #[.agg #[.int .u8 ty, .int .u8 co, .int .u16 su, .string r, .string d], .int .u16 k] (.agg #[.int .u8 ty, .int .u8 co, .int .u16 su, .string (wiM r k), .string d]) w := by
  obtain ⟨n, hn⟩ : ∃ n, r.size = n := ⟨_, rfl⟩
  rw [hn] at hr
  by_cases h2 : n < 2
  · have HV : Hid (wiM r k = r) := by show _ = _; unfold wiM; rw [if_neg (by omega)]
    have e1 : decide ((2 : Int) ≤ (n : Int)) = false := by simp; omega
    clear h2
    go_enter Tryz.func112, Tryz.ntmps112
    go_wp2
    refine bodyPost_ret (v := .agg #[.int .u8 ty, .int .u8 co, .int .u16 su, .string r, .string d]) (by simp [results, Tryz.results112, go_sem]) rfl ?_
    rw [HV.out]
    exact ⟨rfl, ((Below.refl _ _).alloc (Nat.le_refl _) _).alloc (by simp) _⟩
  have e1 : decide ((2 : Int) ≤ (n : Int)) = true := by simp; omega
  have HV : Hid (wiM r k = strOfNums (wordL [k]) ++ r.extract 2 n) := by show _ = _; unfold wiM; rw [hn, if_pos (by omega)]
  have i2 : (2 : Int) ≤ (n : Int) := by omega
  have cp := fun u => rput16 k u i0 i1
  have z1 : (strOfNums (wordL [k])).size = 2 := by rw [size_W]; rfl
  generalize strOfNums (wordL [k]) = U at *
  have q1 : U.size + (n - 2) ≤ 9223372036854775807 := by omega
  have q2 : ¬ 9223372036854775807 < U.size + (n - 2) := by omega
  clear z1 h2
  go_enter Tryz.func112, Tryz.ntmps112
  go_wp2_with fail
  have A0 := (Box5.make w (.int .u8 ty) (.int .u8 co) (.int .u16 su) (.string r) (.string d) 81).past (o := .cells #[.int .u8 0, .int .u8 0, .int .u16 0, .string ⟨#[]⟩, .string ⟨#[]⟩] 81)
  have A1 := Box5.make (w.alloc (.cells #[.int .u8 ty, .int .u8 co, .int .u16 su, .string r, .string d] 81)) (.int .u8 0) (.int .u8 0) (.int .u16 0) (.string ⟨#[]⟩) (.string ⟨#[]⟩) 81
  have hs1 : (w.alloc (.cells #[.int .u8 ty, .int .u8 co, .int .u16 su, .string r, .string d] 81)).heap.size = w.heap.size + 1 := by simp
  rw [hs1] at A1
  have B0 : Below w.heap.size w ((w.alloc (.cells #[.int .u8 ty, .int .u8 co, .int .u16 su, .string r, .string d] 81)).alloc (.cells #[.int .u8 0, .int .u8 0, .int .u16 0, .string ⟨#[]⟩, .string ⟨#[]⟩] 81)) := ((Below.refl _ _).alloc (Nat.le_refl _) _).alloc (by simp) _
  have fz : ∀ j, ((w.alloc (.cells #[.int .u8 ty, .int .u8 co, .int .u16 su, .string r, .string d] 81)).alloc (.cells #[.int .u8 0, .int .u8 0, .int .u16 0, .string ⟨#[]⟩, .string ⟨#[]⟩] 81)).frozen? ⟨w.heap.size, j, none⟩ = false := by intro j; simp [go_sem]
  have gz : ∀ j, ((w.alloc (.cells #[.int .u8 ty, .int .u8 co, .int .u16 su, .string r, .string d] 81)).alloc (.cells #[.int .u8 0, .int .u8 0, .int .u16 0, .string ⟨#[]⟩, .string ⟨#[]⟩] 81)).frozen? ⟨w.heap.size + 1, j, none⟩ = false := by intro j; simp [go_sem]
  obtain ⟨w1, hw1⟩ : ∃ x, x = (w.alloc (.cells #[.int .u8 ty, .int .u8 co, .int .u16 su, .string r, .string d] 81)).alloc (.cells #[.int .u8 0, .int .u8 0, .int .u16 0, .string ⟨#[]⟩, .string ⟨#[]⟩] 81) := ⟨_, rfl⟩
  rw [← hw1] at A0 A1 B0 fz gz ⊢
  clear hw1 hs1
  obtain ⟨lt0, f0, f1, f2, f3, f4⟩ := id A0
  have F3 : ∀ q : Later w1.heap.size w1, q.u.cell? ⟨w.heap.size, 3, none⟩ = some (.string r) := fun q => q.block lt0 f3
  clear f0 f1 f2 f3 f4
  refine region_lead (B := w1.heap.size) 7 1 (by kernel_rfl) (by kernel_rfl) (by kernel_rfl) (by kernel_rfl) ?_
  simp only [List.take_succ_cons, List.take_zero]
  repeat (go_big_quiet_step (first
    | (go_at_call 41; exact later_of _ (Nat.le_refl _) (cp _))))
  refine lead_end (by kernel_rfl) (by kernel_rfl) rfl fun w2 b2 K hK => ?_
  have lt1 := A1.1
  obtain ⟨_, f0, f1, f2, f3, f4⟩ := A0.on b2
  obtain ⟨_, g0, g1, g2, g3, g4⟩ := A1.on b2
  have fz2 : ∀ j, w2.frozen? ⟨w.heap.size, j, none⟩ = false := fun j => (b2.frozen (p := ⟨_, j, none⟩) lt0).trans (fz j)
  have gz2 : ∀ j, w2.frozen? ⟨w.heap.size + 1, j, none⟩ = false := fun j => (b2.frozen (p := ⟨_, j, none⟩) lt1).trans (gz j)
  have B2 := B0.trans (b2.mono B0.size)
  have hs := b2.size
  clear A0 A1 F3 fz gz b2 B0 cp
  go_simp
  refine hK.out _ _ ?_
  clear hK K
  have B3 := B2.setCell (p := ⟨w.heap.size, 3, none⟩) (Nat.le_refl _) (.string (U ++ r.extract 2 n))
  go_wp2
  refine box5_ (b := w.heap.size + 1) (W := w2.setCell ⟨w.heap.size, 3, none⟩ (.string (U ++ r.extract 2 n))) (fun j hj => ?_) B3 (by omega) fun w9 x0 x1 x2 x3 x4 B9 _ _ => ?_
  · match j, hj with
    | 0, _ => simp [go_sem, g0]
    | 1, _ => simp [go_sem, g1]
    | 2, _ => simp [go_sem, g2]
    | 3, _ => simp [go_sem, g3]
    | 4, _ => simp [go_sem, g4]
  refine bodyPost_ret (v := .agg #[.int .u8 ty, .int .u8 co, .int .u16 su, .string (U ++ r.extract 2 n), .string d]) (by simp [results, Tryz.results112, go_sem, x0, x1, x2, x3, x4]) rfl ?_
  rw [HV.out]
  exact ⟨rfl, B9⟩
end Go.Proofs.YtbpicngbjggblaaGreatDoor
namespace Go.Proofs.YtbpicngbjggblaaGreatDoor
set_option maxHeartbeats 4000000
set_option maxRecDepth 100000
set_option linter.unusedVariables false
set_option linter.unusedSimpArgs false
open Go.ChangeShapes Go.WideShapes Go.ChangeAt Go.RowKit Go.PlainAid
attribute [local go_sem ↓] Go.wp_at_zero Go.wp_at_succ
namespace IcmpLaid
def A0 : ByteArray := ⟨#[8, 0, 0, 0, 0, 7, 0, 1, 97, 98]⟩
def B0 : ByteArray := ⟨#[8, 0, 150, 149, 0, 7, 0, 1, 97, 98]⟩
theorem v1 : icP 8 0 0 ⟨#[0, 7, 0, 1]⟩ ⟨#[97, 98]⟩ = A0 := by kernel_rfl
theorem v2 : slI A0 = B0 := by kernel_rfl
theorem v6 : idM ⟨#[0, 7, 0, 1]⟩ = 7 := by kernel_rfl
theorem v7 : idM ⟨#[97]⟩ = 0 := by kernel_rfl
end IcmpLaid
end Go.Proofs.YtbpicngbjggblaaGreatDoor
