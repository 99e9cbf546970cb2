/- The walk of UdpLong. -/
import Derived.Test.YtkfbkdgfpipdkaaUdpM
import Derived.Test.YtkfbkdgfpipdkaaUdpBack
import Derived.Test.YtkfbkdgfpipdkaaShelfStr
import Derived.Test.YtkfbkdgfpipdkaaIpA
import Derived.Deep.RegionHeld3
namespace Go.Proofs.Ytkfbkdgfpipdkaa.UdpLong
set_option linter.unusedVariables false
set_option linter.unusedSimpArgs false
open Go.ChangeShapes Go.WideShapes Go.ChangeAt Go.RowKit Go.PlainAid
theorem repeat_len (l : List UInt8) : ∀ n, (Lib.repeatL l n).length = n * l.length := by
  intro n
  induction n with
  | zero => simp [Lib.repeatL]
  | succ n ih => simp [Lib.repeatL, ih, Nat.succ_mul]; try omega
/-- One byte of a new block, as a text. -/
theorem conv1 (W : World) (n : Nat) (x : Int) (hn : n = W.heap.size) :
    (convert 42 9 (.slice (some ⟨n, 0, none⟩) 1 1)).run Try.prog (W.alloc (.cells #[.int .u8 x] 5)) = .ok (.string (strOfNums [x])) (W.alloc (.cells #[.int .u8 x] 5)) := by
  subst hn
  exact run_convert_bytes_arg (P := Try.prog) (W.alloc (.cells #[.int .u8 x] 5)) 42 5 Try.underlying42 Try.underlying5 W.heap.size 0 1 1 [x] rfl (by
    intro i hi
    match i, hi with
    | 0, _ => simp) 9 Try.underlying9
theorem conv2d (W : World) (x y : Int) :
    (convert 42 9 (.slice (some ⟨W.heap.size, 0, none⟩) 2 2)).run Try.prog (W.alloc (.cells #[.int .u8 x, .int .u8 y] 5)).drew = .ok (.string (strOfNums [x, y])) (W.alloc (.cells #[.int .u8 x, .int .u8 y] 5)).drew :=
  run_convert_bytes_arg (P := Try.prog) (W.alloc (.cells #[.int .u8 x, .int .u8 y] 5)).drew 42 5 Try.underlying42 Try.underlying5 W.heap.size 0 2 2 [x, y] rfl (by
    intro i hi
    match i, hi with
    | 0, _ => simp
    | 1, _ => simp) 9 Try.underlying9
set_option maxRecDepth 100000 in
set_option maxHeartbeats 4000000 in
theorem walk_ (K : UdpOk) (q c a b : Int) (w : World) (hq : (Lit.int .u16 q).wf = true) (hc : (Lit.int .u8 c).wf = true) (ha : (Lit.int .u32 a).wf = true) (hb : (Lit.int .u32 b).wf = true) :
    Calls Try.prog 6 #[.int .u16 q, .int .u8 c, .agg #[.int .u32 a, .int .u32 b]] w fun e w' => e = .returned (.bool true) ∧ Below w.heap.size w w' := by
  obtain ⟨a0, a1⟩ := bounds_u32 ha
  obtain ⟨b0, b1⟩ := bounds_u32 hb
  obtain ⟨q0, q1⟩ := bounds_u16 hq
  clear ha hb hq
  obtain ⟨r, hr⟩ : ∃ r : Nat, q % 600 = (r : Int) := ⟨(q % 600).toNat, by omega⟩
  have hr6 : r < 600 := by omega
  have hr' : q.tmod 600 = (r : Int) := by rw [Int.tmod_eq_emod_of_nonneg q0]; exact hr
  obtain ⟨N, hN⟩ : ∃ N, N = 65528 + r := ⟨_, rfl⟩
  obtain ⟨C, hC⟩ : ∃ C, C = strOfNums [c] := ⟨_, rfl⟩
  have zC : C.size = 1 := by rw [hC, strOfNums_size]; rfl
  have k0 := conv1 (w.alloc (.cells #[.int .u32 a, .int .u32 b] 40)) (w.heap.size + 1) c (by simp)
  rw [← hC] at k0
  have k1 := fun u => repeat_ C N u (by omega) (by rw [zC]; omega)
  obtain ⟨P, hP⟩ : ∃ P, P = str (Lib.repeatL C.data.toList N) := ⟨_, rfl⟩
  have zP : P.size = N := by rw [hP, str_size, repeat_len, len_data, zC, Nat.mul_one]
  rw [← hP] at k1
  have k2 := fun u => K.puts 0 0 0 0 P u (by omega) (by omega) (by omega) (by omega) (by omega) (by omega) (by omega)
  obtain ⟨S, hS⟩ : ∃ S, S = udpB 0 0 0 P := ⟨_, rfl⟩
  have zS : S.size = 8 + N := by rw [hS, UdpBack.udpB_size, zP]
  have wS := (UdpBack.udpB_words 0 0 0 P ByteArray.empty (by omega) (by omega) (by omega) (by omega) (by omega) (by omega)).2.2.1
  rw [ByteArray.append_empty, zP, ← hS] at wS
  rw [← hS] at k2
  have w4 : g16 S 4 = (r : Int) := by rw [wS, hN]; omega
  have okS : uOk S = false := by unfold uOk; rw [w4, zS]; simp; omega
  have k3 := fun u => K.parses S u (by omega)
  obtain ⟨n1, n2⟩ := uOk_no okS
  rw [n1, n1, n1, n1, n2, okS] at k3
  have k4 := fun u => K.seals a b S u a0 a1 b0 b1 (by omega)
  obtain ⟨t1, _, _, _, _, t6⟩ := slU_facts a b S a0 a1 b0 b1 (by omega)
  obtain ⟨T, hT⟩ : ∃ T, T = slU a b S := ⟨_, rfl⟩
  rw [← hT] at k4 t1 t6
  have k5 := fun u => K.checks a b T u a0 a1 b0 b1 (by omega)
  rw [show ckU a b T = true by unfold ckU; rw [t1, t6]; simp; omega] at k5
  have ws := word_of S 4 (by omega)
  rw [show 4 + 2 = 6 by rfl, w4, show wordL [(r : Int)] = [(r : Int) / 256, (r : Int) % 256] by rfl] at ws
  have k6 := fun W : World => conv2d W ((r : Int) / 256) ((r : Int) % 256)
  generalize strOfNums [(r : Int) / 256, (r : Int) % 256] = W2 at *
  obtain ⟨z, hz⟩ : ∃ z, z = 8 + N := ⟨_, rfl⟩
  rw [← hz] at zS
  rw [zS] at t1
  have v1 : 65528 + (r : Int) = (N : Int) := by omega
  have v2 : 8 + (N : Int) = (z : Int) := by omega
  have v3 : IntKind.u8.wrap ((r : Int) / 256) = (r : Int) / 256 := IntWalk.u8_in _ (by omega)
  have v4 : IntKind.u8.wrap (r : Int) = (r : Int) % 256 := by
    unfold IntKind.wrap
    rfl
  have v5 : (r : Int) / 256 ≤ 2 := by omega
  have v6 : (6 : Int) ≤ (z : Int) := by omega
  have v7 : (N : Int) ≤ 100000 := by omega
  have v8 : (r : Int) ≤ 600 := by omega
  clear hC hN hr6 hP hS wS w4 okS n1 n2 hT t6 hz zC
  go_enter Try.func6, Try.ntmps6
  go_wp2_with fail
  have A0 := Box2.make w (.int .u32 a) (.int .u32 b) 40
  clear k0
  refine (k1 _).mono ?_; rintro e w1 ⟨rfl, x1⟩
  have A1 := (A0.past (o := .cells #[.int .u8 c] 5)).on x1
  have B1 : Below w.heap.size w w1 := (((Below.refl _ _).alloc (Nat.le_refl _) _).alloc (by simp) _).trans (x1.mono (by simp; omega))
  clear A0 x1 k1
  go_wp2_with fail
  refine (k2 _).mono ?_; rintro e w2 ⟨rfl, x2⟩
  have A2 := A1.on x2
  have B2 := B1.trans (x2.mono B1.size)
  clear A1 B1 x2 k2
  go_wp2_with fail
  refine (k3 _).mono ?_; rintro e w3 ⟨rfl, x3⟩
  have A3 := (A2.on x3).past (o := .cells #[.int .u16 0, .int .u16 0, .int .u16 0, .int .u16 0] 24)
  have B3 := B2.trans (x3.mono B2.size)
  have B4 := B3.alloc B3.size (.cells #[.int .u16 0, .int .u16 0, .int .u16 0, .int .u16 0] 24)
  obtain ⟨_, f0, f1⟩ := id A3
  clear A2 B2 x3 k3 B3
  go_wp2_with fail
  refine (k4 _).mono ?_; rintro e w4 ⟨rfl, x4⟩
  have A4 := A3.on x4
  have B5 := B4.trans (x4.mono B4.size)
  clear A3 B4 x4 k4 f0 f1
  go_wp2_with fail
  obtain ⟨za, f0, f1⟩ := A4
  -- the last region by hand
  have MK := Lib.hid (show ∀ w', Below w4.heap.size w4 w' → w'.cell? ⟨w.heap.size, 0, none⟩ = some (.int .u32 a) ∧ w'.cell? ⟨w.heap.size, 1, none⟩ = some (.int .u32 b) ∧ Below w4.heap.size w4 w' from
    fun w' h => ⟨(h.cell (p := ⟨_, 0, none⟩) za).trans f0, (h.cell (p := ⟨_, 1, none⟩) za).trans f1, h⟩)
  clear f0 f1
  refine wp_region_noPanic ?_
  refine wp_region_held_drew (S := (fun w' => w'.cell? ⟨w.heap.size, 0, none⟩ = some (.int .u32 a) ∧ w'.cell? ⟨w.heap.size, 1, none⟩ = some (.int .u32 b) ∧ Below w4.heap.size w4 w')) (by kernel_rfl) (MK.out _ (Below.refl _ _).drew) (fun hS => ?_)
  refine wpAnyH_take (i := 0) (oi := _) (v := ?_) rfl (by kernel_rfl) (by kernel_rfl) (by kernel_rfl) (fun _ _ _ h => h) (Or.inl ⟨by rfl, ?_⟩) (by assumption) ?_
  rotate_left
  · intro w hSw
    obtain ⟨h0, h1, _⟩ := hSw
    go_simp
    with_reducible rfl
  try simp only [List.getElem_toArray, List.getElem_cons_succ, List.getElem_cons_zero, Act.put, List.setIfInBounds_toArray, List.set_cons_zero, List.set_cons_succ]
  refine wpAnyH_take (i := 1) (oi := _) (v := ?_) rfl (by kernel_rfl) (by kernel_rfl) (by kernel_rfl) (fun _ _ _ h => h) (Or.inl ⟨by rfl, ?_⟩) (by assumption) ?_
  rotate_left
  · intro w hSw
    obtain ⟨h0, h1, _⟩ := hSw
    go_simp
    with_reducible rfl
  try simp only [List.getElem_toArray, List.getElem_cons_succ, List.getElem_cons_zero, Act.put, List.setIfInBounds_toArray, List.set_cons_zero, List.set_cons_succ]
  refine wpAnyH_take (i := 2) (oi := _) (v := ?_) rfl (by kernel_rfl) (by kernel_rfl) (by kernel_rfl) (fun _ _ _ h => h) (Or.inl ⟨by rfl, ?_⟩) (by assumption) ?_
  rotate_left
  · intro w hSw
    obtain ⟨h0, h1, _⟩ := hSw
    go_simp
    with_reducible rfl
  try simp only [List.getElem_toArray, List.getElem_cons_succ, List.getElem_cons_zero, Act.put, List.setIfInBounds_toArray, List.set_cons_zero, List.set_cons_succ]
  refine wpAnyH_take (i := 3) (oi := _) (v := ?_) rfl (by kernel_rfl) (by kernel_rfl) (by kernel_rfl) (fun _ _ _ h => h) (Or.inl ⟨by rfl, ?_⟩) (by assumption) ?_
  rotate_left
  · intro w hSw
    obtain ⟨h0, h1, _⟩ := hSw
    go_simp
    with_reducible rfl
  try simp only [List.getElem_toArray, List.getElem_cons_succ, List.getElem_cons_zero, Act.put, List.setIfInBounds_toArray, List.set_cons_zero, List.set_cons_succ]
  refine wpAnyH_take (i := 4) (oi := _) (v := ?_) rfl (by kernel_rfl) (by kernel_rfl) (by kernel_rfl) (fun _ _ _ h => h) (Or.inl ⟨by rfl, ?_⟩) (by assumption) ?_
  rotate_left
  · intro w hSw
    obtain ⟨h0, h1, _⟩ := hSw
    go_simp
    with_reducible rfl
  try simp only [List.getElem_toArray, List.getElem_cons_succ, List.getElem_cons_zero, Act.put, List.setIfInBounds_toArray, List.set_cons_zero, List.set_cons_succ]
  refine wpAnyH_take (i := 5) (oi := _) (v := ?_) rfl (by kernel_rfl) (by kernel_rfl) (by kernel_rfl) (fun _ _ _ h => h) (Or.inl ⟨by rfl, ?_⟩) (by assumption) ?_
  rotate_left
  · intro w hSw
    obtain ⟨h0, h1, _⟩ := hSw
    go_simp
    with_reducible rfl
  try simp only [List.getElem_toArray, List.getElem_cons_succ, List.getElem_cons_zero, Act.put, List.setIfInBounds_toArray, List.set_cons_zero, List.set_cons_succ]
  refine wpAnyH_take (i := 6) (oi := _) (v := ?_) rfl (by kernel_rfl) (by kernel_rfl) (by kernel_rfl) (fun _ _ _ h => h) (Or.inl ⟨by rfl, ?_⟩) (by assumption) ?_
  rotate_left
  · intro w hSw
    obtain ⟨h0, h1, _⟩ := hSw
    go_simp
    with_reducible rfl
  try simp only [List.getElem_toArray, List.getElem_cons_succ, List.getElem_cons_zero, Act.put, List.setIfInBounds_toArray, List.set_cons_zero, List.set_cons_succ]
  refine wpAnyH_take (i := 7) (oi := _) (v := ?_) rfl (by kernel_rfl) (by kernel_rfl) (by kernel_rfl) (fun _ _ _ h => h) (Or.inl ⟨by rfl, ?_⟩) (by assumption) ?_
  rotate_left
  · intro w hSw
    obtain ⟨h0, h1, _⟩ := hSw
    go_simp
    with_reducible rfl
  try simp only [List.getElem_toArray, List.getElem_cons_succ, List.getElem_cons_zero, Act.put, List.setIfInBounds_toArray, List.set_cons_zero, List.set_cons_succ]
  refine wpAnyH_take (i := 8) (oi := _) (v := ?_) rfl (by kernel_rfl) (by kernel_rfl) (by kernel_rfl) (fun _ _ _ h => h) (Or.inl ⟨by rfl, ?_⟩) (by assumption) ?_
  rotate_left
  · intro w hSw
    obtain ⟨h0, h1, _⟩ := hSw
    go_simp
    with_reducible rfl
  try simp only [List.getElem_toArray, List.getElem_cons_succ, List.getElem_cons_zero, Act.put, List.setIfInBounds_toArray, List.set_cons_zero, List.set_cons_succ]
  refine wpAnyH_take (i := 9) (oi := _) (v := ?_) rfl (by kernel_rfl) (by kernel_rfl) (by kernel_rfl) (fun _ _ _ h => h) (Or.inl ⟨by rfl, ?_⟩) (by assumption) ?_
  rotate_left
  · intro w hSw
    obtain ⟨h0, h1, _⟩ := hSw
    go_simp
    with_reducible rfl
  try simp only [List.getElem_toArray, List.getElem_cons_succ, List.getElem_cons_zero, Act.put, List.setIfInBounds_toArray, List.set_cons_zero, List.set_cons_succ]
  refine wpAnyH_take (i := 10) (oi := _) (v := ?_) rfl (by kernel_rfl) (by kernel_rfl) (by kernel_rfl) (fun _ _ _ h => h) (Or.inl ⟨by rfl, ?_⟩) (by assumption) ?_
  rotate_left
  · intro w hSw
    obtain ⟨h0, h1, _⟩ := hSw
    go_simp
    with_reducible rfl
  try simp only [List.getElem_toArray, List.getElem_cons_succ, List.getElem_cons_zero, Act.put, List.setIfInBounds_toArray, List.set_cons_zero, List.set_cons_succ]
  refine wpAnyH_take (i := 11) (oi := _) (v := ?_) rfl (by kernel_rfl) (by kernel_rfl) (by kernel_rfl) (fun _ _ _ h => h) (Or.inl ⟨by rfl, ?_⟩) (by assumption) ?_
  rotate_left
  · intro w hSw
    obtain ⟨h0, h1, _⟩ := hSw
    go_simp
    with_reducible rfl
  try simp only [List.getElem_toArray, List.getElem_cons_succ, List.getElem_cons_zero, Act.put, List.setIfInBounds_toArray, List.set_cons_zero, List.set_cons_succ]
  refine wpAnyH_ready (rs := [12]) (by kernel_rfl) (by simp) ?_
  refine AllReadyH.cons (o := _) rfl (fun F hF => ?_) AllReadyH.nil
  go_simp
  refine hF.out _ _ (MK.out _ (hS.2.2.alloc hS.2.2.size _)) (fun hS => ?_)
  clear hF F
  try simp only [List.getElem_toArray, List.getElem_cons_succ, List.getElem_cons_zero, Act.put, List.setIfInBounds_toArray, List.set_cons_zero, List.set_cons_succ]
  refine wpAnyH_ready (rs := [13]) (by kernel_rfl) (by simp) ?_
  refine AllReadyH.cons (o := _) rfl (fun F hF => ?_) AllReadyH.nil
  go_simp
  refine hF.out _ _ (hS) (fun hS => ?_)
  clear hF F
  try simp only [List.getElem_toArray, List.getElem_cons_succ, List.getElem_cons_zero, Act.put, List.setIfInBounds_toArray, List.set_cons_zero, List.set_cons_succ]
  refine wpAnyH_take (i := 14) (oi := _) (v := ?_) rfl (by kernel_rfl) (by kernel_rfl) (by kernel_rfl) (fun _ _ _ h => h) (Or.inl ⟨by rfl, ?_⟩) (by assumption) ?_
  rotate_left
  · intro w hSw
    obtain ⟨h0, h1, _⟩ := hSw
    go_simp
    with_reducible rfl
  try simp only [List.getElem_toArray, List.getElem_cons_succ, List.getElem_cons_zero, Act.put, List.setIfInBounds_toArray, List.set_cons_zero, List.set_cons_succ]
  refine wpAnyH_take (i := 15) (oi := _) (v := ?_) rfl (by kernel_rfl) (by kernel_rfl) (by kernel_rfl) (fun _ _ _ h => h) (Or.inl ⟨by rfl, ?_⟩) (by assumption) ?_
  rotate_left
  · intro w hSw
    obtain ⟨h0, h1, _⟩ := hSw
    go_simp
    with_reducible rfl
  try simp only [List.getElem_toArray, List.getElem_cons_succ, List.getElem_cons_zero, Act.put, List.setIfInBounds_toArray, List.set_cons_zero, List.set_cons_succ]
  refine wpAnyH_take (i := 16) (oi := _) (v := ?_) rfl (by kernel_rfl) (by kernel_rfl) (by kernel_rfl) (fun _ _ _ h => h) (Or.inl ⟨by rfl, ?_⟩) (by assumption) ?_
  rotate_left
  · intro w hSw
    obtain ⟨h0, h1, _⟩ := hSw
    go_simp
    with_reducible rfl
  try simp only [List.getElem_toArray, List.getElem_cons_succ, List.getElem_cons_zero, Act.put, List.setIfInBounds_toArray, List.set_cons_zero, List.set_cons_succ]
  refine wpAnyH_take (i := 17) (oi := _) (v := ?_) rfl (by kernel_rfl) (by kernel_rfl) (by kernel_rfl) (fun _ _ _ h => h) (Or.inl ⟨by rfl, ?_⟩) (by assumption) ?_
  rotate_left
  · intro w hSw
    obtain ⟨h0, h1, _⟩ := hSw
    go_simp
    with_reducible rfl
  try simp only [List.getElem_toArray, List.getElem_cons_succ, List.getElem_cons_zero, Act.put, List.setIfInBounds_toArray, List.set_cons_zero, List.set_cons_succ]
  refine wpAnyH_take (i := 18) (oi := _) (v := ?_) rfl (by kernel_rfl) (by kernel_rfl) (by kernel_rfl) (fun _ _ _ h => h) (Or.inl ⟨by rfl, ?_⟩) (by assumption) ?_
  rotate_left
  · intro w hSw
    obtain ⟨h0, h1, _⟩ := hSw
    go_simp
    with_reducible rfl
  try simp only [List.getElem_toArray, List.getElem_cons_succ, List.getElem_cons_zero, Act.put, List.setIfInBounds_toArray, List.set_cons_zero, List.set_cons_succ]
  refine wpAnyH_take (i := 19) (oi := _) (v := ?_) rfl (by kernel_rfl) (by kernel_rfl) (by kernel_rfl) (fun _ _ _ h => h) (Or.inl ⟨by rfl, ?_⟩) (by assumption) ?_
  rotate_left
  · intro w hSw
    obtain ⟨h0, h1, _⟩ := hSw
    go_simp
    with_reducible rfl
  try simp only [List.getElem_toArray, List.getElem_cons_succ, List.getElem_cons_zero, Act.put, List.setIfInBounds_toArray, List.set_cons_zero, List.set_cons_succ]
  refine wpAnyH_take (i := 20) (oi := _) (v := ?_) rfl (by kernel_rfl) (by kernel_rfl) (by kernel_rfl) (fun _ _ _ h => h) (Or.inl ⟨by rfl, ?_⟩) (by assumption) ?_
  rotate_left
  · intro w hSw
    obtain ⟨h0, h1, _⟩ := hSw
    go_simp
    with_reducible rfl
  try simp only [List.getElem_toArray, List.getElem_cons_succ, List.getElem_cons_zero, Act.put, List.setIfInBounds_toArray, List.set_cons_zero, List.set_cons_succ]
  refine wpAnyH_take (i := 21) (oi := _) (v := ?_) rfl (by kernel_rfl) (by kernel_rfl) (by kernel_rfl) (fun _ _ _ h => h) (Or.inl ⟨by rfl, ?_⟩) (by assumption) ?_
  rotate_left
  · intro w hSw
    obtain ⟨h0, h1, _⟩ := hSw
    go_simp
    with_reducible rfl
  try simp only [List.getElem_toArray, List.getElem_cons_succ, List.getElem_cons_zero, Act.put, List.setIfInBounds_toArray, List.set_cons_zero, List.set_cons_succ]
  refine wpAnyH_take (i := 22) (oi := _) (v := ?_) rfl (by kernel_rfl) (by kernel_rfl) (by kernel_rfl) (fun _ _ _ h => h) (Or.inl ⟨by rfl, ?_⟩) (by assumption) ?_
  rotate_left
  · intro w hSw
    obtain ⟨h0, h1, _⟩ := hSw
    go_simp
    with_reducible rfl
  try simp only [List.getElem_toArray, List.getElem_cons_succ, List.getElem_cons_zero, Act.put, List.setIfInBounds_toArray, List.set_cons_zero, List.set_cons_succ]
  refine wpAnyH_take (i := 23) (oi := _) (v := ?_) rfl (by kernel_rfl) (by kernel_rfl) (by kernel_rfl) (fun _ _ _ h => h) (Or.inl ⟨by rfl, ?_⟩) (by assumption) ?_
  rotate_left
  · intro w hSw
    obtain ⟨h0, h1, _⟩ := hSw
    go_simp
    with_reducible rfl
  try simp only [List.getElem_toArray, List.getElem_cons_succ, List.getElem_cons_zero, Act.put, List.setIfInBounds_toArray, List.set_cons_zero, List.set_cons_succ]
  refine wpAnyH_take (i := 24) (oi := _) (v := ?_) rfl (by kernel_rfl) (by kernel_rfl) (by kernel_rfl) (fun _ _ _ h => h) (Or.inl ⟨by rfl, ?_⟩) (by assumption) ?_
  rotate_left
  · intro w hSw
    obtain ⟨h0, h1, _⟩ := hSw
    go_simp
    with_reducible rfl
  try simp only [List.getElem_toArray, List.getElem_cons_succ, List.getElem_cons_zero, Act.put, List.setIfInBounds_toArray, List.set_cons_zero, List.set_cons_succ]
  refine wpAnyH_take (i := 25) (oi := _) (v := ?_) rfl (by kernel_rfl) (by kernel_rfl) (by kernel_rfl) (fun _ _ _ h => h) (Or.inl ⟨by rfl, ?_⟩) (by assumption) ?_
  rotate_left
  · intro w hSw
    obtain ⟨h0, h1, _⟩ := hSw
    go_simp
    with_reducible rfl
  try simp only [List.getElem_toArray, List.getElem_cons_succ, List.getElem_cons_zero, Act.put, List.setIfInBounds_toArray, List.set_cons_zero, List.set_cons_succ]
  refine wpAnyH_take (i := 26) (oi := _) (v := ?_) rfl (by kernel_rfl) (by kernel_rfl) (by kernel_rfl) (fun _ _ _ h => h) (Or.inl ⟨by rfl, ?_⟩) (by assumption) ?_
  rotate_left
  · intro w hSw
    obtain ⟨h0, h1, _⟩ := hSw
    go_simp
    with_reducible rfl
  try simp only [List.getElem_toArray, List.getElem_cons_succ, List.getElem_cons_zero, Act.put, List.setIfInBounds_toArray, List.set_cons_zero, List.set_cons_succ]
  refine wpAnyH_take (i := 27) (oi := _) (v := ?_) rfl (by kernel_rfl) (by kernel_rfl) (by kernel_rfl) (fun _ _ _ h => h) (Or.inl ⟨by rfl, ?_⟩) (by assumption) ?_
  rotate_left
  · intro w hSw
    obtain ⟨h0, h1, _⟩ := hSw
    go_simp
    with_reducible rfl
  try simp only [List.getElem_toArray, List.getElem_cons_succ, List.getElem_cons_zero, Act.put, List.setIfInBounds_toArray, List.set_cons_zero, List.set_cons_succ]
  refine wpAnyH_take (i := 28) (oi := _) (v := ?_) rfl (by kernel_rfl) (by kernel_rfl) (by kernel_rfl) (fun _ _ _ h => h) (Or.inl ⟨by rfl, ?_⟩) (by assumption) ?_
  rotate_left
  · intro w hSw
    obtain ⟨h0, h1, _⟩ := hSw
    go_simp
    with_reducible rfl
  try simp only [List.getElem_toArray, List.getElem_cons_succ, List.getElem_cons_zero, Act.put, List.setIfInBounds_toArray, List.set_cons_zero, List.set_cons_succ]
  refine wpAnyH_ready (rs := [29]) (by kernel_rfl) (by simp) ?_
  refine AllReadyH.cons (o := _) rfl (fun F hF => ?_) AllReadyH.nil
  go_simp
  refine (k5 _).mono ?_
  rintro e w5 ⟨rfl, x5⟩
  show F _ _
  refine hF.out _ _ (MK.out _ (hS.2.2.trans (x5.mono hS.2.2.size))) (fun hS => ?_)
  clear hF F
  try simp only [List.getElem_toArray, List.getElem_cons_succ, List.getElem_cons_zero, Act.put, List.setIfInBounds_toArray, List.set_cons_zero, List.set_cons_succ]
  refine wpAnyH_take (i := 30) (oi := _) (v := ?_) rfl (by kernel_rfl) (by kernel_rfl) (by kernel_rfl) (fun _ _ _ h => h) (Or.inl ⟨by rfl, ?_⟩) (by assumption) ?_
  rotate_left
  · intro w hSw
    obtain ⟨h0, h1, _⟩ := hSw
    go_simp
    with_reducible rfl
  try simp only [List.getElem_toArray, List.getElem_cons_succ, List.getElem_cons_zero, Act.put, List.setIfInBounds_toArray, List.set_cons_zero, List.set_cons_succ]
  refine wpAnyH_take (i := 31) (oi := _) (v := ?_) rfl (by kernel_rfl) (by kernel_rfl) (by kernel_rfl) (fun _ _ _ h => h) (Or.inl ⟨by rfl, ?_⟩) (by assumption) ?_
  rotate_left
  · intro w hSw
    obtain ⟨h0, h1, _⟩ := hSw
    go_simp
    with_reducible rfl
  try simp only [List.getElem_toArray, List.getElem_cons_succ, List.getElem_cons_zero, Act.put, List.setIfInBounds_toArray, List.set_cons_zero, List.set_cons_succ]
  refine wpAnyH_ready (rs := [32]) (by kernel_rfl) (by simp) ?_
  refine AllReadyH.cons (o := _) rfl (fun F hF => ?_) AllReadyH.nil
  go_simp
  refine (sent_ K _).mono ?_
  rintro e w6 ⟨rfl, x6⟩
  show F _ _
  refine hF.out _ _ (MK.out _ (hS.2.2.trans (x6.mono hS.2.2.size))) (fun hS => ?_)
  clear hF F
  try simp only [List.getElem_toArray, List.getElem_cons_succ, List.getElem_cons_zero, Act.put, List.setIfInBounds_toArray, List.set_cons_zero, List.set_cons_succ]
  refine wpAnyH_take (i := 33) (oi := _) (v := ?_) rfl (by kernel_rfl) (by kernel_rfl) (by kernel_rfl) (fun _ _ _ h => h) (Or.inl ⟨by rfl, ?_⟩) (by assumption) ?_
  rotate_left
  · intro w hSw
    obtain ⟨h0, h1, _⟩ := hSw
    go_simp
    with_reducible rfl
  try simp only [List.getElem_toArray, List.getElem_cons_succ, List.getElem_cons_zero, Act.put, List.setIfInBounds_toArray, List.set_cons_zero, List.set_cons_succ]
  refine wpAnyH_take (i := 34) (oi := _) (v := ?_) rfl (by kernel_rfl) (by kernel_rfl) (by kernel_rfl) (fun _ _ _ h => h) (Or.inl ⟨by rfl, ?_⟩) (by assumption) ?_
  rotate_left
  · intro w hSw
    obtain ⟨h0, h1, _⟩ := hSw
    go_simp
    with_reducible rfl
  try simp only [List.getElem_toArray, List.getElem_cons_succ, List.getElem_cons_zero, Act.put, List.setIfInBounds_toArray, List.set_cons_zero, List.set_cons_succ]
  refine wpAnyH_done (by kernel_rfl) (NoPanic.normal ?_) _
  have B6 := B5.trans (hS.2.2.mono B5.size)
  clear hS MK B5 k5 k6
  go_wp2
  go_ret
  exact ⟨rfl, B6⟩
end Go.Proofs.Ytkfbkdgfpipdkaa.UdpLong
