/- The chapter's examples of layer 4: what they come to. -/
import Derived.Test.YtfiokjenfmpmlaaIpK
import Derived.Test.YtfiokjenfmpmlaaIpI
namespace Go.Proofs.Ytfiokjenfmpmlaa
set_option linter.unusedVariables false
set_option linter.unusedSimpArgs false
open Go.ChangeShapes Go.WideShapes Go.ChangeAt Go.RowKit Go.PlainAid
namespace IpLaid
def S0 : ByteArray := ⟨#[69, 0, 0, 20, 0, 0, 0, 0, 64, 17, 108, 211, 10, 0, 0, 1, 1, 2, 3, 4]⟩
theorem c1 (w : World) : Calls Try.prog 11 #[.agg #[.int .u8 0, .int .u16 0, .bool false, .int .u8 64, .int .u8 17, .int .u32 167772161, .int .u32 16909060, .string ⟨#[]⟩], .string ⟨#[]⟩] w fun e w' => e = .returned (.tuple #[.string S0, .int .i64 0]) ∧ Below w.heap.size w w' := by
  have h := put_ 0 0 false 64 17 167772161 16909060 ⟨#[]⟩ ⟨#[]⟩ w (by omega) (by omega) (by omega) (by omega) (by omega) (by omega) (by omega) (by omega) (by omega) (by omega) (by omega) (by omega) (by decide) (by decide)
  rw [show putB 0 0 false 64 17 167772161 16909060 ⟨#[]⟩ ⟨#[]⟩ = S0 by kernel_rfl, show putE (⟨#[]⟩ : ByteArray).size (⟨#[]⟩ : ByteArray).size = 0 by kernel_rfl] at h
  exact h
theorem c2 (w : World) : Calls Try.prog 9 #[.string S0] w fun e w' => e = .returned (.tuple #[.agg #[.int .u8 0, .int .u16 0, .bool false, .int .u8 64, .int .u8 17, .int .u32 167772161, .int .u32 16909060, .string ⟨#[]⟩], .string ⟨#[]⟩, .int .i64 0]) ∧ Below w.heap.size w w' := by
  have h := parse_ S0 w (by decide)
  rw [show pI S0 (bt S0 1) = 0 by kernel_rfl, show pI S0 (g16 S0 4) = 0 by kernel_rfl, show pF S0 = false by kernel_rfl, show pI S0 (bt S0 8) = 64 by kernel_rfl, show pI S0 (bt S0 9) = 17 by kernel_rfl, show pI S0 (g32 S0 12) = 167772161 by kernel_rfl, show pI S0 (g32 S0 16) = 16909060 by kernel_rfl, show pO S0 = ⟨#[]⟩ by kernel_rfl, show pP S0 = ⟨#[]⟩ by kernel_rfl, show pR S0 = 0 by kernel_rfl] at h
  exact h
/-- What is not taken tells nothing. -/
theorem none_ {s : ByteArray} {r : Int} (h0 : ¬ r = 0) (hr : pR s = r) (hs : s.size < maxLen) (w : World) : Calls Try.prog 9 #[.string s] w fun e w' => e = .returned (.tuple #[.agg #[.int .u8 0, .int .u16 0, .bool false, .int .u8 0, .int .u8 0, .int .u32 0, .int .u32 0, .string ⟨#[]⟩], .string ⟨#[]⟩, .int .i64 r]) ∧ Below w.heap.size w w' := by
  have h := parse_ s w hs
  obtain ⟨h1, h2, h3, h4⟩ := p_no (s := s) (by rw [hr]; exact h0)
  rw [h1, h1, h1, h1, h1, h1, h2, h3, h4, hr] at h
  exact h
theorem c3 : pR (S0.extract 0 19) = 1 := by kernel_rfl
theorem c4 : pR (⟨#[85]⟩ ++ S0.extract 1 20) = 2 := by kernel_rfl
theorem c5 : pR (⟨#[70]⟩ ++ S0.extract 1 20) = 3 := by kernel_rfl
theorem c6 : pR (S0.extract 0 8 ++ ⟨#[63]⟩ ++ S0.extract 9 20) = 4 := by kernel_rfl
theorem c7 (w : World) : Calls Try.prog 11 #[.agg #[.int .u8 0, .int .u16 0, .bool false, .int .u8 0, .int .u8 0, .int .u32 0, .int .u32 0, .string ⟨#[97, 98, 99]⟩], .string ⟨#[]⟩] w fun e w' => e = .returned (.tuple #[.string ⟨#[]⟩, .int .i64 2]) ∧ Below w.heap.size w w' := by
  have h := put_ 0 0 false 0 0 0 0 ⟨#[97, 98, 99]⟩ ⟨#[]⟩ w (by omega) (by omega) (by omega) (by omega) (by omega) (by omega) (by omega) (by omega) (by omega) (by omega) (by omega) (by omega) (by decide) (by decide)
  rw [show putB 0 0 false 0 0 0 0 ⟨#[97, 98, 99]⟩ ⟨#[]⟩ = ⟨#[]⟩ by kernel_rfl, show putE (⟨#[97, 98, 99]⟩ : ByteArray).size (⟨#[]⟩ : ByteArray).size = 2 by kernel_rfl] at h
  exact h
theorem repeat_len (l : List UInt8) : ∀ n, (Lib.repeatL l n).length = n * l.length := by
  intro n
  induction n with
  | zero => simp [Lib.repeatL]
  | succ n ih => simp [Lib.repeatL, ih, Nat.succ_mul]; try omega
theorem c8 (x : ByteArray) (hx : x.size = 2029) (w : World) : Calls Try.prog 11 #[.agg #[.int .u8 0, .int .u16 0, .bool false, .int .u8 64, .int .u8 17, .int .u32 167772161, .int .u32 16909060, .string ⟨#[]⟩], .string x] w fun e w' => e = .returned (.tuple #[.string ⟨#[]⟩, .int .i64 4]) ∧ Below w.heap.size w w' := by
  have h := put_ 0 0 false 64 17 167772161 16909060 ⟨#[]⟩ x w (by omega) (by omega) (by omega) (by omega) (by omega) (by omega) (by omega) (by omega) (by omega) (by omega) (by omega) (by omega) (by decide) (by omega)
  have he : putE (⟨#[]⟩ : ByteArray).size x.size = 4 := by rw [hx]; kernel_rfl
  have hb : putB 0 0 false 64 17 167772161 16909060 ⟨#[]⟩ x = ⟨#[]⟩ := by unfold putB; rw [he]; rfl
  rw [he, hb] at h
  exact h
theorem cr : ∃ R : ByteArray, R.size = 2029 ∧ ∀ w, Calls Try.prog 14 #[.string ⟨#[120]⟩, .int .i64 2029] w fun e w' => e = .returned (.string R) ∧ Below w.heap.size w w' :=
  ⟨_, by rw [str_size, repeat_len]; rfl, fun w => repeat_ ⟨#[120]⟩ 2029 w (by omega) (by decide)⟩
end IpLaid
/-- A box of eight cells. -/
def Box8 (w : World) (b : Nat) (v0 v1 v2 v3 v4 v5 v6 v7 : Value) : Prop :=
  b < w.heap.size ∧ w.cell? ⟨b, 0, none⟩ = some v0 ∧ w.cell? ⟨b, 1, none⟩ = some v1 ∧ w.cell? ⟨b, 2, none⟩ = some v2 ∧ w.cell? ⟨b, 3, none⟩ = some v3 ∧ w.cell? ⟨b, 4, none⟩ = some v4 ∧ w.cell? ⟨b, 5, none⟩ = some v5 ∧ w.cell? ⟨b, 6, none⟩ = some v6 ∧ w.cell? ⟨b, 7, none⟩ = some v7
theorem Box8.on {w w' : World} {b : Nat} {v0 v1 v2 v3 v4 v5 v6 v7 : Value} (h : Box8 w b v0 v1 v2 v3 v4 v5 v6 v7) (hb : Below w.heap.size w w') : Box8 w' b v0 v1 v2 v3 v4 v5 v6 v7 := by
  obtain ⟨h, h0, h1, h2, h3, h4, h5, h6, h7⟩ := h
  exact ⟨Nat.lt_of_lt_of_le h hb.size, (hb.cell (p := ⟨b, 0, none⟩) h).trans h0, (hb.cell (p := ⟨b, 1, none⟩) h).trans h1, (hb.cell (p := ⟨b, 2, none⟩) h).trans h2, (hb.cell (p := ⟨b, 3, none⟩) h).trans h3, (hb.cell (p := ⟨b, 4, none⟩) h).trans h4, (hb.cell (p := ⟨b, 5, none⟩) h).trans h5, (hb.cell (p := ⟨b, 6, none⟩) h).trans h6, (hb.cell (p := ⟨b, 7, none⟩) h).trans h7⟩
theorem Box8.make (w : World) (v0 v1 v2 v3 v4 v5 v6 v7 : Value) (t : TypeId) : Box8 (w.alloc (.cells #[v0, v1, v2, v3, v4, v5, v6, v7] t)) w.heap.size v0 v1 v2 v3 v4 v5 v6 v7 :=
  ⟨by simp, by simp [go_sem], by simp [go_sem], by simp [go_sem], by simp [go_sem], by simp [go_sem], by simp [go_sem], by simp [go_sem], by simp [go_sem]⟩
theorem Box8.past {w : World} {o : Obj} {b : Nat} {v0 v1 v2 v3 v4 v5 v6 v7 : Value} (h : Box8 w b v0 v1 v2 v3 v4 v5 v6 v7) : Box8 (w.alloc o) b v0 v1 v2 v3 v4 v5 v6 v7 := h.on ((Below.refl _ _).alloc (Nat.le_refl _) _)
theorem Box8.far {W X : World} {a b : Nat} {v0 v1 v2 v3 v4 v5 v6 v7 : Value} (h : Box8 W a v0 v1 v2 v3 v4 v5 v6 v7) (hf : ∀ p : Addr, ¬ b = p.block → X.cell? p = W.cell? p) (hn : ¬ b = a) : Box8 X a v0 v1 v2 v3 v4 v5 v6 v7 := by
  obtain ⟨h, h0, h1, h2, h3, h4, h5, h6, h7⟩ := h
  have k0 := (hf ⟨a, 0, none⟩ hn).trans h0
  exact ⟨World.block_lt_of_cell? _ _ k0, k0, (hf ⟨a, 1, none⟩ hn).trans h1, (hf ⟨a, 2, none⟩ hn).trans h2, (hf ⟨a, 3, none⟩ hn).trans h3, (hf ⟨a, 4, none⟩ hn).trans h4, (hf ⟨a, 5, none⟩ hn).trans h5, (hf ⟨a, 6, none⟩ hn).trans h6, (hf ⟨a, 7, none⟩ hn).trans h7⟩
theorem Box8.some {W : World} {a : Nat} {v0 v1 v2 v3 v4 v5 v6 v7 : Value} (h : Box8 W a v0 v1 v2 v3 v4 v5 v6 v7) : ∀ j, j < 8 → (W.cell? ⟨a, j, none⟩).isSome = true := by
  obtain ⟨h, h0, h1, h2, h3, h4, h5, h6, h7⟩ := h
  intro j hj
  match j, hj with
  | 0, _ => rw [h0]; rfl
  | 1, _ => rw [h1]; rfl
  | 2, _ => rw [h2]; rfl
  | 3, _ => rw [h3]; rfl
  | 4, _ => rw [h4]; rfl
  | 5, _ => rw [h5]; rfl
  | 6, _ => rw [h6]; rfl
  | 7, _ => rw [h7]; rfl
end Go.Proofs.Ytfiokjenfmpmlaa
