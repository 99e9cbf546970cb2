/- The document's New (layer 13). -/
import Derived.Test.YtlnbjpabcldmnaaSlaN
namespace Go.Proofs.Ytlnbjpabcldmnaa
set_option linter.unusedVariables false
set_option linter.unusedSimpArgs false
open Go.ChangeShapes Go.WideShapes Go.ChangeAt Go.RowKit Go.PlainAid
attribute [local go_sem ↓] Go.wp_at_zero Go.wp_at_succ
theorem row_succ {T : TypeId} {w : World} {B : Nat} {v : Value} {k : Nat} {xs : List Value} (h : w.ownsRow B T 2 v (k + 1) xs) : ∃ g cap, v = .slice (some ⟨g, 0, none⟩) (k + 1) cap := by
  rcases h.2 with ⟨_, h0⟩ | ⟨g, cap, _, rfl, _⟩
  · omega
  · exact ⟨g, cap, rfl⟩
set_option maxHeartbeats 1000000 in
set_option maxRecDepth 100000 in
theorem rnewE13_ (n : Int) (w : World) (h : n < 1 ∨ 256 < n) :
    Calls Try.prog 9 #[.int .i64 n] w fun e w' => e = .returned (.tuple #[.pointer none, .int .i64 2]) ∧ w = w' := by
  have key : ∃ b : Bool, decide (n < 1) = b ∧ (b = false → decide (256 < n) = true) := ⟨_, rfl, fun hb => by simp at hb ⊢; omega⟩
  obtain ⟨b, b1, b2⟩ := key
  cases b
  · have b3 := b2 rfl
    clear b2 h
    go_enter Try.func9, Try.ntmps9
    go_wp2
    go_ret2
    exact ⟨rfl, rfl⟩
  · clear b2 h
    go_enter Try.func9, Try.ntmps9
    go_wp2
    go_ret2
    exact ⟨rfl, rfl⟩
set_option maxHeartbeats 4000000 in
set_option maxRecDepth 100000 in
theorem rnew13_ (n : Nat) (w : World) (h1 : 1 ≤ n) (h2 : n ≤ 256) :
    Calls Try.prog 9 #[.int .i64 (n : Int)] w fun e w' => e = .returned (.tuple #[.pointer (some ⟨w.heap.size, 0, none⟩), .int .i64 0]) ∧ Below w.heap.size w w' ∧ ∃ b c, w.heap.size < b ∧ SlD w' w.heap.size b c (slNew n) := by
  obtain ⟨i0, hi0, hz0, hz1, hz2⟩ := slot_info
  have t1 : decide ((n : Int) < 1) = false := by simp; omega
  have t2 : decide ((256 : Int) < (n : Int)) = false := by simp; omega
  have mxl : maxLen = 9223372036854775807 := rfl
  go_enter Try.func9, Try.ntmps9
  go_upto_region 5 with fail
  have B1 : Below w.heap.size w (w.alloc (.cells #[.slice none 0 0] 62)) := (Below.refl _ _).alloc (Nat.le_refl _) _
  have c0 : (w.alloc (.cells #[.slice none 0 0] 62)).cell? ⟨w.heap.size, 0, none⟩ = some (.slice none 0 0) := by simp [go_sem]
  have f0 : (w.alloc (.cells #[.slice none 0 0] 62)).frozen? ⟨w.heap.size, 0, none⟩ = false := by simp [go_sem]
  have z1 : (w.alloc (.cells #[.slice none 0 0] 62)).heap.size = w.heap.size + 1 := by simp
  obtain ⟨w1, hw1⟩ : ∃ w1, w1 = w.alloc (.cells #[.slice none 0 0] 62) := ⟨_, rfl⟩
  rw [← hw1] at B1 c0 f0 z1 ⊢
  clear hw1
  go_loopw [5] (fun si wr => ∃ (i : Nat) (v : Value), i ≤ n ∧ si = .int .i64 (i : Int) ∧ wr.cell? ⟨w.heap.size, 0, none⟩ = some v ∧ RowP 64 wr (w.heap.size + 1) v (slNew i) ∧ Below w.heap.size w wr ∧ w.heap.size < wr.heap.size ∧ wr.frozen? ⟨w.heap.size, 0, none⟩ = false) (fun si _ => n - (intOf si).toNat)
  case atStart => exact ⟨0, _, Nat.zero_le _, rfl, c0, RowP.nil _ _ _, B1, by omega, f0⟩
  case round =>
    obtain ⟨k, v, hk, rfl, hc, hr, hB, hz, hf⟩ := hrel
    by_cases hlt : k < n
    · have t3 : decide ((k : Int) < (n : Int)) = true := by simp; omega
      have ew : wrap64 ((k : Int) + 1) = (k : Int) + 1 := IntWalk.wrap64_in _ (by omega)
      have HR := Lib.hid hr
      have hr0 : wr.ownsRow (w.heap.size + 1) 64 2 v k (valsP (slNew k)) := by have := hr; unfold RowP at this; rwa [slNew_len] at this
      have HB := Lib.hid hB
      have hne : some w.heap.size ≠ v.ownBlock := fun e => by have := (HR.out.lt _ e.symm).1; omega
      have hcA : (wr.alloc (.cells #[.int .i64 0, .int .u32 1] 64)).cell? ⟨w.heap.size, 0, none⟩ = some v := (((Below.refl wr.heap.size wr).alloc (Nat.le_refl _) _).cell (p := ⟨w.heap.size, 0, none⟩) hz).trans hc
      have hfA : (wr.alloc (.cells #[.int .i64 0, .int .u32 1] 64)).frozen? ⟨w.heap.size, 0, none⟩ = false := (((Below.refl wr.heap.size wr).alloc (Nat.le_refl _) _).frozen (p := ⟨w.heap.size, 0, none⟩) hz).trans hf
      have hzA : w.heap.size < (wr.alloc (.cells #[.int .i64 0, .int .u32 1] 64)).heap.size := by simp; omega
      clear hr hB
      go_wp2_with (at_builtin; refine wpList_append_own _ rfl _ _ 60 rfl (w.heap.size + 1) 64 i0 _ 2 16 Try.underlying60 hi0 hz0 hz1 hz2 rfl (by omega) _ k (valsP (slNew k)) rfl (hr0.alloc _) ⟨wr.heap.size, 0, none⟩ 1 1 (valsP [(0, 1)]) rfl rfl (newP wr 0 1 _) (onesP _) (by rw [mxl]; omega) (by omega) (by simp; omega) ?_; intro v' w2 hown hgrow hnil; obtain ⟨g', cap', rfl⟩ := row_succ hown; have hc2 := hgrow.cell (a := ⟨w.heap.size, 0, none⟩) hcA hne; have hf2 := (World.frozen?_of_block (w := wr.alloc (.cells #[.int .i64 0, .int .u32 1] 64)) (a := ⟨w.heap.size, 0, none⟩) (hgrow.block _ hzA hne)).trans hfA)
      have hgrow' : (wr.alloc (.cells #[.int .i64 0, .int .u32 1] 64)).grownBy w2 v.ownBlock := hgrow
      have hg1 : w.heap.size + 1 ≤ g' := (World.ownsRow.lt hown g' rfl).1
      have hB2 : Below w.heap.size w w2 := (HB.out.alloc HB.out.size _).grown hgrow' (by simp; omega) (fun j hj => by have := (HR.out.lt j hj).1; omega)
      have hz2 : w.heap.size < w2.heap.size := Nat.lt_of_lt_of_le hzA hgrow'.size
      have hr2 : RowP 64 w2 (w.heap.size + 1) (.slice (some ⟨g', 0, none⟩) (k + 1) cap') (slNew (k + 1)) := by unfold RowP; rw [slNew_len, ← slNew_succ, valsP_app]; exact hown
      clear hgrow hnil
      go_roundw
      case rel => exact ⟨k + 1, _, by omega, by simp, World.cell?_setCell_same' _ _ _ (by rw [hc2]; rfl), hr2.keep (fun j hj => Below.heap_setCell _ _ _ _ (by have := (hr2.lt j hj).1; show j ≠ w.heap.size; omega)), hB2.setCell (p := ⟨w.heap.size, 0, none⟩) (Nat.le_refl _) _, by simpa [World.setCell] using hz2, by rw [World.frozen?_setCell]; exact hf2⟩
      case measure => simp [intOf]; omega
    · obtain rfl : k = n := by omega
      have t3 : decide ((k : Int) < (k : Int)) = false := by simp
      obtain ⟨g, c, rfl, hg, hP⟩ := hr.at (by rw [slNew_len]; omega)
      rw [slNew_len] at hc
      have HC := Lib.hid hc
      have HB := Lib.hid hB
      clear hc hB hr hf
      go_wp2
      go_ret2
      exact ⟨rfl, HB.out, g, c, by omega, hz, by omega, by rw [slNew_len]; exact HC.out, hP, Sl.Ok.new k h2⟩
end Go.Proofs.Ytlnbjpabcldmnaa
