/- Contracts: addresses told, by the program and by the document. -/
import Derived.Test.YtaaobacmlaaajaaDoorShelfNum
import Derived.Test.YtaaobacmlaaajaaDoorAddrsD
import Derived.OwnWalk
import Derived.Lib.Slices
import Derived.Laws.IdiomStrings
namespace Go.Proofs.YtaaobacmlaaajaaDoor
set_option linter.unusedVariables false
set_option linter.unusedSimpArgs false
open Go.ChangeShapes Go.WideShapes Go.ChangeAt Go.RowKit Go.PlainAid
theorem infoByte : (Tryd.prog.info? 5).map (fun i => (i.zero, i.size, i.bytes)) = some (some (.int .u8 0), 1, 1) := by kernel_rfl
/-- What stands there behind so many numbers. -/
def preL (a : Nat) : Nat → List UInt8
  | 0 => []
  | 1 => Lib.decDigits (a / 16777216) ++ [46]
  | 2 => Lib.decDigits (a / 16777216) ++ [46] ++ (Lib.decDigits (a / 65536 % 256) ++ [46])
  | 3 => Lib.decDigits (a / 16777216) ++ [46] ++ (Lib.decDigits (a / 65536 % 256) ++ [46]) ++ (Lib.decDigits (a / 256 % 256) ++ [46])
  | _ => textL a
def digB (a : Nat) : Nat → Nat
  | 0 => a / 16777216
  | 1 => a / 65536 % 256
  | 2 => a / 256 % 256
  | _ => a % 256
theorem preL_next (a : Nat) : ∀ i, i < 3 → preL a (i + 1) = preL a i ++ Lib.decDigits (digB a i) ++ [46]
  | 0, _ => by simp [preL, digB]
  | 1, _ => by simp [preL, digB]
  | 2, _ => by simp [preL, digB]
theorem preL_last (a : Nat) : textL a = preL a 3 ++ Lib.decDigits (digB a 3) := by simp [preL, digB, textL]
theorem preL_len (a : Nat) (ha : a < 4294967296) : ∀ i, i ≤ 3 → (preL a i).length ≤ 10000 := by
  have h1 := dec_len (a / 16777216)
  have h2 := dec_len (a / 65536 % 256)
  have h3 := dec_len (a / 256 % 256)
  intro i hi
  match i, hi with
  | 0, _ => simp [preL]
  | 1, _ => simp [preL]; omega
  | 2, _ => simp [preL]; omega
  | 3, _ => simp [preL]; omega
theorem textL_len (a : Nat) (ha : a < 4294967296) : (textL a).length ≤ 20000 := by
  have h1 := dec_len (a / 16777216)
  have h2 := dec_len (a / 65536 % 256)
  have h3 := dec_len (a / 256 % 256)
  have h4 := dec_len (a % 256)
  simp [textL]; omega
theorem digB_shr (a i : Nat) (ha : a < 4294967296) (hi : i ≤ 3) : (a / 2 ^ (24 - 8 * i)) % 256 = digB a i := by
  match i, hi with
  | 0, _ => show a / 16777216 % 256 = a / 16777216; omega
  | 1, _ => rfl
  | 2, _ => rfl
  | 3, _ => show a / 2 ^ 0 % 256 = a % 256; simp
set_option maxHeartbeats 4000000 in
set_option maxRecDepth 100000 in
theorem text_ (a : Nat) (w : World) (ha : a < 4294967296) (ht : Tab w) :
    Calls Tryd.prog 6 #[.int .u32 (a : Int)] w fun e w' => e = .returned (.string (str (textL a))) ∧ Below w.heap.size w w' := by
  obtain ⟨i0, hi, hz0, hz1, hz2⟩ := info_parts infoByte
  go_enter Tryd.func6, Tryd.ntmps6
  go_wp2_with (at_make; refine wpList_make_own _ rfl _ _ 48 rfl w.heap.size 5 i0 (.int .u8 0) 1 Tryd.underlying48 hi hz0 hz1 _ _ _ 15 rfl rfl (by omega) ?b2 ?b3 (Nat.le_refl _) ?_)
  case b2 => rw [hz2]; omega
  case b3 => unfold maxLen; omega
  intro w0 hown0 hgrow0
  have B0 : Below w.heap.size w w0 := (Below.refl _ _).grown hgrow0 (Nat.le_refl _) (fun k h => by cases h)
  go_wp2
  go_loopw [3, 4] (fun bs si wr => ∃ (i : Nat) (z : Int) (v : Value), i ≤ 4 ∧ z = 24 - 8 * (i : Int) ∧ si = .int .i64 z ∧ bs = v ∧ wr.ownsRow w.heap.size 5 1 v (preL a i).length (Lib.byteCells (preL a i)) ∧ Below w.heap.size w wr)
    (fun _ si _ => (intOf si + 8).toNat)
  case atStart => exact ⟨0, 24, _, by omega, by omega, rfl, rfl, hown0, B0⟩
  case round =>
    obtain ⟨i, z, v, hi4, hz, rfl, rfl, hown, B⟩ := hrel
    clear hown0 hgrow0 B0
    have hB := B.size
    have htw := ht.on B
    match i, hi4 with
    | 0, _ =>
      have hz' : z = 24 := by omega
      subst hz'
      clear hz
      have hlen := preL_len a ha 0 (by omega)
      have hdl := dec_len (a / 16777216)
      have hnx : Hid (preL a 1 = preL a 0 ++ Lib.decDigits (a / 16777216) ++ [46]) := preL_next a 0 (by omega)
      go_wp2_with fail
      refine (append_ w.heap.size (preL a 0).length (a / 16777216) (by omega) u3 _ wr hown hB (by omega) htw).mono ?_
      rintro e w1 ⟨v1, rfl, hown1, b1⟩
      have B1 := B.trans b1
      rw [← Lib.byteCells_append, ← List.length_append] at hown1
      have hlen1 : (preL a 0 ++ Lib.decDigits (a / 16777216)).length ≤ 20000000 := by rw [List.length_append]; omega
      obtain ⟨ls, hls⟩ : ∃ ls, ls = preL a 0 ++ Lib.decDigits (a / 16777216) := ⟨_, rfl⟩
      rw [← hls] at hown1 hlen1
      have HLS := Lib.hid hls
      clear hls hown b1 B hlen hdl
      go_wp2_with (at_builtin; refine wpList_append_own _ rfl _ _ 48 rfl w.heap.size 5 i0 (.int .u8 0) 1 1 Tryd.underlying48 hi hz0 hz1 hz2 rfl (by decide) _ _ _ rfl (hown1.alloc _) ⟨w1.heap.size, 0, none⟩ 1 1 [Value.int .u8 46] rfl rfl (by intro j u' hj; match j, hj with | 0, hj => simp at hj; subst hj; simp [Addr.add]) (by intro u' hu'; simp at hu'; subst hu'; rfl) (by unfold maxLen; omega) (by omega) (by have := B1.size; simp; omega) ?_)
      intro v2 w2 hown2 hgrow _
      have B2 : Below w.heap.size w w2 := (B1.alloc B1.size _).grown hgrow (by have := B1.size; simp; omega) (fun k hk => (hown1.lt k hk).1)
      have eL : Lib.byteCells ls ++ [Value.int .u8 46] = Lib.byteCells (ls ++ [46]) := by simp [Lib.byteCells]
      have eN : ls.length + 1 = (ls ++ [46]).length := by simp
      rw [eL, eN] at hown2
      have hown3 : w2.ownsRow w.heap.size 5 1 v2 (preL a 1).length (Lib.byteCells (preL a 1)) := by rw [hnx.out, ← HLS.out]; exact hown2
      clear hown2 hown1 hgrow B1 eL eN
      go_wp2
      go_roundw
      case rel => exact ⟨1, 16, v2, by omega, by omega, rfl, rfl, hown3, B2⟩
      case measure => simp [intOf]
    | 1, _ =>
      have hz' : z = 16 := by omega
      subst hz'
      clear hz
      have hlen := preL_len a ha 1 (by omega)
      have hdl := dec_len (a / 65536 % 256)
      have hnx : Hid (preL a 2 = preL a 1 ++ Lib.decDigits (a / 65536 % 256) ++ [46]) := preL_next a 1 (by omega)
      go_wp2_with fail
      refine (append_ w.heap.size (preL a 1).length (a / 65536 % 256) (by omega) u3 _ wr hown hB (by omega) htw).mono ?_
      rintro e w1 ⟨v1, rfl, hown1, b1⟩
      have B1 := B.trans b1
      rw [← Lib.byteCells_append, ← List.length_append] at hown1
      have hlen1 : (preL a 1 ++ Lib.decDigits (a / 65536 % 256)).length ≤ 20000000 := by rw [List.length_append]; omega
      obtain ⟨ls, hls⟩ : ∃ ls, ls = preL a 1 ++ Lib.decDigits (a / 65536 % 256) := ⟨_, rfl⟩
      rw [← hls] at hown1 hlen1
      have HLS := Lib.hid hls
      clear hls hown b1 B hlen hdl
      go_wp2_with (at_builtin; refine wpList_append_own _ rfl _ _ 48 rfl w.heap.size 5 i0 (.int .u8 0) 1 1 Tryd.underlying48 hi hz0 hz1 hz2 rfl (by decide) _ _ _ rfl (hown1.alloc _) ⟨w1.heap.size, 0, none⟩ 1 1 [Value.int .u8 46] rfl rfl (by intro j u' hj; match j, hj with | 0, hj => simp at hj; subst hj; simp [Addr.add]) (by intro u' hu'; simp at hu'; subst hu'; rfl) (by unfold maxLen; omega) (by omega) (by have := B1.size; simp; omega) ?_)
      intro v2 w2 hown2 hgrow _
      have B2 : Below w.heap.size w w2 := (B1.alloc B1.size _).grown hgrow (by have := B1.size; simp; omega) (fun k hk => (hown1.lt k hk).1)
      have eL : Lib.byteCells ls ++ [Value.int .u8 46] = Lib.byteCells (ls ++ [46]) := by simp [Lib.byteCells]
      have eN : ls.length + 1 = (ls ++ [46]).length := by simp
      rw [eL, eN] at hown2
      have hown3 : w2.ownsRow w.heap.size 5 1 v2 (preL a 2).length (Lib.byteCells (preL a 2)) := by rw [hnx.out, ← HLS.out]; exact hown2
      clear hown2 hown1 hgrow B1 eL eN
      go_wp2
      go_roundw
      case rel => exact ⟨2, 8, v2, by omega, by omega, rfl, rfl, hown3, B2⟩
      case measure => simp [intOf]
    | 2, _ =>
      have hz' : z = 8 := by omega
      subst hz'
      clear hz
      have hlen := preL_len a ha 2 (by omega)
      have hdl := dec_len (a / 256 % 256)
      have hnx : Hid (preL a 3 = preL a 2 ++ Lib.decDigits (a / 256 % 256) ++ [46]) := preL_next a 2 (by omega)
      go_wp2_with fail
      refine (append_ w.heap.size (preL a 2).length (a / 256 % 256) (by omega) u3 _ wr hown hB (by omega) htw).mono ?_
      rintro e w1 ⟨v1, rfl, hown1, b1⟩
      have B1 := B.trans b1
      rw [← Lib.byteCells_append, ← List.length_append] at hown1
      have hlen1 : (preL a 2 ++ Lib.decDigits (a / 256 % 256)).length ≤ 20000000 := by rw [List.length_append]; omega
      obtain ⟨ls, hls⟩ : ∃ ls, ls = preL a 2 ++ Lib.decDigits (a / 256 % 256) := ⟨_, rfl⟩
      rw [← hls] at hown1 hlen1
      have HLS := Lib.hid hls
      clear hls hown b1 B hlen hdl
      go_wp2_with (at_builtin; refine wpList_append_own _ rfl _ _ 48 rfl w.heap.size 5 i0 (.int .u8 0) 1 1 Tryd.underlying48 hi hz0 hz1 hz2 rfl (by decide) _ _ _ rfl (hown1.alloc _) ⟨w1.heap.size, 0, none⟩ 1 1 [Value.int .u8 46] rfl rfl (by intro j u' hj; match j, hj with | 0, hj => simp at hj; subst hj; simp [Addr.add]) (by intro u' hu'; simp at hu'; subst hu'; rfl) (by unfold maxLen; omega) (by omega) (by have := B1.size; simp; omega) ?_)
      intro v2 w2 hown2 hgrow _
      have B2 : Below w.heap.size w w2 := (B1.alloc B1.size _).grown hgrow (by have := B1.size; simp; omega) (fun k hk => (hown1.lt k hk).1)
      have eL : Lib.byteCells ls ++ [Value.int .u8 46] = Lib.byteCells (ls ++ [46]) := by simp [Lib.byteCells]
      have eN : ls.length + 1 = (ls ++ [46]).length := by simp
      rw [eL, eN] at hown2
      have hown3 : w2.ownsRow w.heap.size 5 1 v2 (preL a 3).length (Lib.byteCells (preL a 3)) := by rw [hnx.out, ← HLS.out]; exact hown2
      clear hown2 hown1 hgrow B1 eL eN
      go_wp2
      go_roundw
      case rel => exact ⟨3, 0, v2, by omega, by omega, rfl, rfl, hown3, B2⟩
      case measure => simp [intOf]
    | 3, _ =>
      have hz' : z = 0 := by omega
      subst hz'
      clear hz
      have hlen := preL_len a ha 3 (by omega)
      have hdl := dec_len (a % 256)
      have hnx : Hid (preL a 4 = preL a 3 ++ Lib.decDigits (a % 256)) := preL_last a
      go_wp2_with fail
      refine (append_ w.heap.size (preL a 3).length (a % 256) (by omega) u3 _ wr hown hB (by omega) htw).mono ?_
      rintro e w1 ⟨v1, rfl, hown1, b1⟩
      have B1 := B.trans b1
      rw [← Lib.byteCells_append, ← List.length_append] at hown1
      have hlen1 : (preL a 3 ++ Lib.decDigits (a % 256)).length ≤ 20000000 := by rw [List.length_append]; omega
      obtain ⟨ls, hls⟩ : ∃ ls, ls = preL a 3 ++ Lib.decDigits (a % 256) := ⟨_, rfl⟩
      rw [← hls] at hown1 hlen1
      have HLS := Lib.hid hls
      clear hls hown b1 B hlen hdl
      have hown3 : w1.ownsRow w.heap.size 5 1 v1 (preL a 4).length (Lib.byteCells (preL a 4)) := by rw [show preL a 4 = ls by rw [HLS.out]; exact hnx.out]; exact hown1
      clear hown1
      go_wp2
      go_roundw
      case rel => exact ⟨4, -8, v1, by omega, by omega, rfl, rfl, hown3, B1⟩
      case measure => simp [intOf]
    | 4, _ =>
      have hz' : z = -8 := by omega
      subst hz'
      clear hz
      have hown3 : wr.ownsRow w.heap.size 5 1 u3 (textL a).length (Lib.byteCells (textL a)) := hown
      have hpos : 0 < (textL a).length := by simp [textL]; omega
      obtain ⟨l, hl⟩ : ∃ l, l = textL a := ⟨_, rfl⟩
      rw [← hl] at hown3 hpos
      have HL := Lib.hid hl
      clear hl hown
      rcases hown3.2 with ⟨-, h0⟩ | ⟨g, cap, cur, rfl, -, -, -, -, -, -⟩
      · omega
      · have hcv := run_convert_bytes_back (P := Tryd.prog) wr 48 9 5 ⟨g, 0, none⟩ cap l Tryd.underlying48 Tryd.underlying5 Tryd.underlying9 (fun j hj => hown3.cells (g := g) rfl j _ (by simp [Lib.byteCells, hj]))
        clear hown3
        go_wp2
        go_ret
        rw [← HL.out]
        exact ⟨rfl, B⟩
theorem strApp (l : List UInt8) : str l ++ ⟨#[46]⟩ = str (l ++ [46]) := str_app l [46]
set_option maxHeartbeats 4000000 in
set_option maxRecDepth 100000 in
theorem rtext_ (a : Nat) (w : World) (ha : a < 4294967296) :
    Calls Tryd.prog 7 #[.int .u32 (a : Int)] w fun e w' => e = .returned (.string (str (textL a))) ∧ Below w.heap.size w w' := by
  have h1 := dec_len (a / 16777216)
  have h2 := dec_len (a / 65536 % 256)
  have h3 := dec_len (a / 256 % 256)
  have h4 := dec_len (a % 256)
  have c1 := fun u => digits_ (a / 16777216) u (by omega)
  have c2 := fun u => digits_ (a / 65536 % 256) u (by omega)
  have c3 := fun u => digits_ (a / 256 % 256) u (by omega)
  have c4 := fun u => digits_ (a % 256) u (by omega)
  have HN : Hid (∀ s1 s2 s3 s4, s1 = str (Lib.decDigits (a / 16777216)) → s2 = str (Lib.decDigits (a / 65536 % 256)) → s3 = str (Lib.decDigits (a / 256 % 256)) → s4 = str (Lib.decDigits (a % 256)) →
      s1 ++ ⟨#[46]⟩ ++ s2 ++ ⟨#[46]⟩ ++ s3 ++ ⟨#[46]⟩ ++ s4 = str (textL a)) := by
    rintro s1 s2 s3 s4 rfl rfl rfl rfl
    rw [strApp, str_app, strApp, str_app, strApp, str_app]
    simp [textL]
  rw [← str_size] at h1 h2 h3 h4
  obtain ⟨s1, e1⟩ : ∃ s, s = str (Lib.decDigits (a / 16777216)) := ⟨_, rfl⟩
  obtain ⟨s2, e2⟩ : ∃ s, s = str (Lib.decDigits (a / 65536 % 256)) := ⟨_, rfl⟩
  obtain ⟨s3, e3⟩ : ∃ s, s = str (Lib.decDigits (a / 256 % 256)) := ⟨_, rfl⟩
  obtain ⟨s4, e4⟩ : ∃ s, s = str (Lib.decDigits (a % 256)) := ⟨_, rfl⟩
  rw [← e1] at c1 h1
  rw [← e2] at c2 h2
  rw [← e3] at c3 h3
  rw [← e4] at c4 h4
  have HV := Lib.hid (HN.out s1 s2 s3 s4 e1 e2 e3 e4)
  have b1 : s1.size ≤ 1000 := by omega
  have b2 : s2.size ≤ 1000 := by omega
  have b3 : s3.size ≤ 1000 := by omega
  have b4 : s4.size ≤ 1000 := by omega
  clear h1 h2 h3 h4 HN e1 e2 e3 e4
  have q1 : s1.size + 1 ≤ 9223372036854775807 := by omega
  have q2 : s1.size + 1 + s2.size ≤ 9223372036854775807 := by omega
  have q3 : s1.size + 1 + s2.size + 1 ≤ 9223372036854775807 := by omega
  have q4 : s1.size + 1 + s2.size + 1 + s3.size ≤ 9223372036854775807 := by omega
  have q5 : s1.size + 1 + s2.size + 1 + s3.size + 1 ≤ 9223372036854775807 := by omega
  have q6 : s1.size + 1 + s2.size + 1 + s3.size + 1 + s4.size ≤ 9223372036854775807 := by omega
  go_enter Tryd.func7, Tryd.ntmps7
  go_wp2_with fail
  refine (c1 _).mono ?_; rintro e w1 ⟨rfl, g1⟩
  go_wp2_with fail
  refine (c2 _).mono ?_; rintro e w2 ⟨rfl, g2⟩
  have G2 := g1.trans (g2.mono g1.size)
  clear g1 g2
  go_wp2_with fail
  refine (c3 _).mono ?_; rintro e w3 ⟨rfl, g3⟩
  have G3 := G2.trans (g3.mono G2.size)
  clear G2 g3
  go_wp2_with fail
  refine (c4 _).mono ?_; rintro e w4 ⟨rfl, g4⟩
  have G4 := G3.trans (g4.mono G3.size)
  clear G3 g4
  go_wp2
  go_ret
  rw [← HV.out]
  exact ⟨rfl, G4⟩
end Go.Proofs.YtaaobacmlaaajaaDoor
