/- Texts of this proof, together: Code, RulPlA. -/
import Derived.Test.YtoogegpkgohffaaSq
import Derived.Test.YtoogegpkgohffaaSr
import Derived.WalkKit
import Derived.Deep.CutBlock
import Derived.Deep.MidRow
namespace Go.Proofs.Ytoogegpkgohffaa
/-- The block of a number. -/
def blockIn (n : Nat) : Code → Option Code
  | .block m c => if m = n then some (.block m c) else blockIn n c
  | .loop c => blockIn n c
  | .scope c => blockIn n c
  | .seq a b => match blockIn n a with
    | some c => some c
    | none => blockIn n b
  | .cond _ a b => match blockIn n a with
    | some c => some c
    | none => blockIn n b
  | _ => none
end Go.Proofs.Ytoogegpkgohffaa
namespace Go.Proofs.Ytoogegpkgohffaa
set_option linter.unusedVariables false
set_option linter.unusedSimpArgs false
open Go.ChangeShapes Go.WideShapes Go.ChangeAt Go.RowKit Go.PlainAid
attribute [local go_sem ↓] Go.wp_at_zero Go.wp_at_succ
/-- A box of 19 cells. -/
def Box19 (w : World) (b : Nat) (v0 v1 v2 v3 v4 v5 v6 v7 v8 v9 v10 v11 v12 v13 v14 v15 v16 v17 v18 : Value) : Prop :=
  b < w.heap.size ∧ w.cell? ⟨b, 0, none⟩ = some v0 ∧ w.cell? ⟨b, 1, none⟩ = some v1 ∧ w.cell? ⟨b, 2, none⟩ = some v2 ∧ w.cell? ⟨b, 3, none⟩ = some v3 ∧ w.cell? ⟨b, 4, none⟩ = some v4 ∧ w.cell? ⟨b, 5, none⟩ = some v5 ∧ w.cell? ⟨b, 6, none⟩ = some v6 ∧ w.cell? ⟨b, 7, none⟩ = some v7 ∧ w.cell? ⟨b, 8, none⟩ = some v8 ∧ w.cell? ⟨b, 9, none⟩ = some v9 ∧ w.cell? ⟨b, 10, none⟩ = some v10 ∧ w.cell? ⟨b, 11, none⟩ = some v11 ∧ w.cell? ⟨b, 12, none⟩ = some v12 ∧ w.cell? ⟨b, 13, none⟩ = some v13 ∧ w.cell? ⟨b, 14, none⟩ = some v14 ∧ w.cell? ⟨b, 15, none⟩ = some v15 ∧ w.cell? ⟨b, 16, none⟩ = some v16 ∧ w.cell? ⟨b, 17, none⟩ = some v17 ∧ w.cell? ⟨b, 18, none⟩ = some v18
theorem Box19.on {w w' : World} {b : Nat} {v0 v1 v2 v3 v4 v5 v6 v7 v8 v9 v10 v11 v12 v13 v14 v15 v16 v17 v18 : Value} (h : Box19 w b v0 v1 v2 v3 v4 v5 v6 v7 v8 v9 v10 v11 v12 v13 v14 v15 v16 v17 v18) (hb : Below w.heap.size w w') : Box19 w' b v0 v1 v2 v3 v4 v5 v6 v7 v8 v9 v10 v11 v12 v13 v14 v15 v16 v17 v18 := by
  obtain ⟨h, h0, h1, h2, h3, h4, h5, h6, h7, h8, h9, h10, h11, h12, h13, h14, h15, h16, h17, h18⟩ := h
  exact ⟨Nat.lt_of_lt_of_le h hb.size, (hb.cell (p := ⟨b, 0, none⟩) h).trans h0, (hb.cell (p := ⟨b, 1, none⟩) h).trans h1, (hb.cell (p := ⟨b, 2, none⟩) h).trans h2, (hb.cell (p := ⟨b, 3, none⟩) h).trans h3, (hb.cell (p := ⟨b, 4, none⟩) h).trans h4, (hb.cell (p := ⟨b, 5, none⟩) h).trans h5, (hb.cell (p := ⟨b, 6, none⟩) h).trans h6, (hb.cell (p := ⟨b, 7, none⟩) h).trans h7, (hb.cell (p := ⟨b, 8, none⟩) h).trans h8, (hb.cell (p := ⟨b, 9, none⟩) h).trans h9, (hb.cell (p := ⟨b, 10, none⟩) h).trans h10, (hb.cell (p := ⟨b, 11, none⟩) h).trans h11, (hb.cell (p := ⟨b, 12, none⟩) h).trans h12, (hb.cell (p := ⟨b, 13, none⟩) h).trans h13, (hb.cell (p := ⟨b, 14, none⟩) h).trans h14, (hb.cell (p := ⟨b, 15, none⟩) h).trans h15, (hb.cell (p := ⟨b, 16, none⟩) h).trans h16, (hb.cell (p := ⟨b, 17, none⟩) h).trans h17, (hb.cell (p := ⟨b, 18, none⟩) h).trans h18⟩
theorem Box19.make (w : World) (v0 v1 v2 v3 v4 v5 v6 v7 v8 v9 v10 v11 v12 v13 v14 v15 v16 v17 v18 : Value) (t : TypeId) : Box19 (w.alloc (.cells #[v0, v1, v2, v3, v4, v5, v6, v7, v8, v9, v10, v11, v12, v13, v14, v15, v16, v17, v18] t)) w.heap.size v0 v1 v2 v3 v4 v5 v6 v7 v8 v9 v10 v11 v12 v13 v14 v15 v16 v17 v18 :=
  ⟨by simp, by simp [go_sem], by simp [go_sem], by simp [go_sem], by simp [go_sem], by simp [go_sem], by simp [go_sem], by simp [go_sem], by simp [go_sem], by simp [go_sem], by simp [go_sem], by simp [go_sem], by simp [go_sem], by simp [go_sem], by simp [go_sem], by simp [go_sem], by simp [go_sem], by simp [go_sem], by simp [go_sem], by simp [go_sem]⟩
theorem Box19.past {w : World} {o : Obj} {b : Nat} {v0 v1 v2 v3 v4 v5 v6 v7 v8 v9 v10 v11 v12 v13 v14 v15 v16 v17 v18 : Value} (h : Box19 w b v0 v1 v2 v3 v4 v5 v6 v7 v8 v9 v10 v11 v12 v13 v14 v15 v16 v17 v18) : Box19 (w.alloc o) b v0 v1 v2 v3 v4 v5 v6 v7 v8 v9 v10 v11 v12 v13 v14 v15 v16 v17 v18 := h.on ((Below.refl _ _).alloc (Nat.le_refl _) _)
theorem Box19.far {W X : World} {a b : Nat} {v0 v1 v2 v3 v4 v5 v6 v7 v8 v9 v10 v11 v12 v13 v14 v15 v16 v17 v18 : Value} (h : Box19 W a v0 v1 v2 v3 v4 v5 v6 v7 v8 v9 v10 v11 v12 v13 v14 v15 v16 v17 v18) (hf : ∀ p : Addr, ¬ b = p.block → X.cell? p = W.cell? p) (hn : ¬ b = a) : Box19 X a v0 v1 v2 v3 v4 v5 v6 v7 v8 v9 v10 v11 v12 v13 v14 v15 v16 v17 v18 := by
  obtain ⟨h, h0, h1, h2, h3, h4, h5, h6, h7, h8, h9, h10, h11, h12, h13, h14, h15, h16, h17, h18⟩ := h
  have k0 := (hf ⟨a, 0, none⟩ hn).trans h0
  exact ⟨World.block_lt_of_cell? _ _ k0, k0, (hf ⟨a, 1, none⟩ hn).trans h1, (hf ⟨a, 2, none⟩ hn).trans h2, (hf ⟨a, 3, none⟩ hn).trans h3, (hf ⟨a, 4, none⟩ hn).trans h4, (hf ⟨a, 5, none⟩ hn).trans h5, (hf ⟨a, 6, none⟩ hn).trans h6, (hf ⟨a, 7, none⟩ hn).trans h7, (hf ⟨a, 8, none⟩ hn).trans h8, (hf ⟨a, 9, none⟩ hn).trans h9, (hf ⟨a, 10, none⟩ hn).trans h10, (hf ⟨a, 11, none⟩ hn).trans h11, (hf ⟨a, 12, none⟩ hn).trans h12, (hf ⟨a, 13, none⟩ hn).trans h13, (hf ⟨a, 14, none⟩ hn).trans h14, (hf ⟨a, 15, none⟩ hn).trans h15, (hf ⟨a, 16, none⟩ hn).trans h16, (hf ⟨a, 17, none⟩ hn).trans h17, (hf ⟨a, 18, none⟩ hn).trans h18⟩
theorem Box19.some {W : World} {a : Nat} {v0 v1 v2 v3 v4 v5 v6 v7 v8 v9 v10 v11 v12 v13 v14 v15 v16 v17 v18 : Value} (h : Box19 W a v0 v1 v2 v3 v4 v5 v6 v7 v8 v9 v10 v11 v12 v13 v14 v15 v16 v17 v18) : ∀ j, j < 19 → (W.cell? ⟨a, j, none⟩).isSome = true := by
  obtain ⟨h, h0, h1, h2, h3, h4, h5, h6, h7, h8, h9, h10, h11, h12, h13, h14, h15, h16, h17, h18⟩ := h
  intro j hj
  match j, hj with
  | 0, _ => rw [h0]; rfl
  | 1, _ => rw [h1]; rfl
  | 2, _ => rw [h2]; rfl
  | 3, _ => rw [h3]; rfl
  | 4, _ => rw [h4]; rfl
  | 5, _ => rw [h5]; rfl
  | 6, _ => rw [h6]; rfl
  | 7, _ => rw [h7]; rfl
  | 8, _ => rw [h8]; rfl
  | 9, _ => rw [h9]; rfl
  | 10, _ => rw [h10]; rfl
  | 11, _ => rw [h11]; rfl
  | 12, _ => rw [h12]; rfl
  | 13, _ => rw [h13]; rfl
  | 14, _ => rw [h14]; rfl
  | 15, _ => rw [h15]; rfl
  | 16, _ => rw [h16]; rfl
  | 17, _ => rw [h17]; rfl
  | 18, _ => rw [h18]; rfl
  | k + 19, hk => exact absurd hk (by omega)

theorem Box19.keep {w w' : World} {b : Nat} {v0 v1 v2 v3 v4 v5 v6 v7 v8 v9 v10 v11 v12 v13 v14 v15 v16 v17 v18 : Value} (h : Box19 w b v0 v1 v2 v3 v4 v5 v6 v7 v8 v9 v10 v11 v12 v13 v14 v15 v16 v17 v18) (hs : w.heap.size ≤ w'.heap.size) (hb : w'.heap[b]? = w.heap[b]?) : Box19 w' b v0 v1 v2 v3 v4 v5 v6 v7 v8 v9 v10 v11 v12 v13 v14 v15 v16 v17 v18 := by
  obtain ⟨h, h0, h1, h2, h3, h4, h5, h6, h7, h8, h9, h10, h11, h12, h13, h14, h15, h16, h17, h18⟩ := h
  have e : ∀ i : Nat, w'.cell? ⟨b, i, none⟩ = w.cell? ⟨b, i, none⟩ := fun i => World.cell?_of_block (w := w) hb
  exact ⟨Nat.lt_of_lt_of_le h hs, (e 0).trans h0, (e 1).trans h1, (e 2).trans h2, (e 3).trans h3, (e 4).trans h4, (e 5).trans h5, (e 6).trans h6, (e 7).trans h7, (e 8).trans h8, (e 9).trans h9, (e 10).trans h10, (e 11).trans h11, (e 12).trans h12, (e 13).trans h13, (e 14).trans h14, (e 15).trans h15, (e 16).trans h16, (e 17).trans h17, (e 18).trans h18⟩
namespace RulesPlay
theorem range19 {w : World} {b o : Nat} {a : Ac} (h : AcC w b o a) : w.rangeAt b o [.int .u8 a.kd, .int .i64 a.at_, .int .u8 a.d.d0, .int .u8 a.d.d1, .int .u8 a.d.d2, .int .u8 a.d.d3, .int .u8 a.d.d4, .int .u8 a.d.d5, .int .i64 a.r.k, .int .u8 a.r.pr, .int .u32 (a.r.si : Int), .int .i64 a.r.sb, .int .u32 (a.r.di : Int), .int .i64 a.r.db, .int .u32 (a.r.ex : Int), .int .u16 a.r.fr, .int .u16 a.r.to, .int .u32 (a.r.ii : Int), .int .u16 a.r.ip] := by
  obtain ⟨h0, h1, h2, h3, h4, h5, h6, h7, h8, h9, h10, h11, h12, h13, h14, h15, h16, h17, h18⟩ := h
  intro j v hj
  match j, hj with
  | 0, hj =>
    have e : (.int .u8 a.kd : Value) = v := by simpa using hj
    subst e; exact h0
  | 1, hj =>
    have e : (.int .i64 a.at_ : Value) = v := by simpa using hj
    subst e; exact h1
  | 2, hj =>
    have e : (.int .u8 a.d.d0 : Value) = v := by simpa using hj
    subst e; exact h2
  | 3, hj =>
    have e : (.int .u8 a.d.d1 : Value) = v := by simpa using hj
    subst e; exact h3
  | 4, hj =>
    have e : (.int .u8 a.d.d2 : Value) = v := by simpa using hj
    subst e; exact h4
  | 5, hj =>
    have e : (.int .u8 a.d.d3 : Value) = v := by simpa using hj
    subst e; exact h5
  | 6, hj =>
    have e : (.int .u8 a.d.d4 : Value) = v := by simpa using hj
    subst e; exact h6
  | 7, hj =>
    have e : (.int .u8 a.d.d5 : Value) = v := by simpa using hj
    subst e; exact h7
  | 8, hj =>
    have e : (.int .i64 a.r.k : Value) = v := by simpa using hj
    subst e; exact h8
  | 9, hj =>
    have e : (.int .u8 a.r.pr : Value) = v := by simpa using hj
    subst e; exact h9
  | 10, hj =>
    have e : (.int .u32 (a.r.si : Int) : Value) = v := by simpa using hj
    subst e; exact h10
  | 11, hj =>
    have e : (.int .i64 a.r.sb : Value) = v := by simpa using hj
    subst e; exact h11
  | 12, hj =>
    have e : (.int .u32 (a.r.di : Int) : Value) = v := by simpa using hj
    subst e; exact h12
  | 13, hj =>
    have e : (.int .i64 a.r.db : Value) = v := by simpa using hj
    subst e; exact h13
  | 14, hj =>
    have e : (.int .u32 (a.r.ex : Int) : Value) = v := by simpa using hj
    subst e; exact h14
  | 15, hj =>
    have e : (.int .u16 a.r.fr : Value) = v := by simpa using hj
    subst e; exact h15
  | 16, hj =>
    have e : (.int .u16 a.r.to : Value) = v := by simpa using hj
    subst e; exact h16
  | 17, hj =>
    have e : (.int .u32 (a.r.ii : Int) : Value) = v := by simpa using hj
    subst e; exact h17
  | 18, hj =>
    have e : (.int .u16 a.r.ip : Value) = v := by simpa using hj
    subst e; exact h18
  | k + 19, hj => simp at hj
theorem yn0 (w : World) : Calls Try.prog 12 #[.int .u32 151587081, .agg #[.int .u32 167772160, .int .i64 8]] w fun e w' => ∃ q, e = .returned (.tuple #[.pointer (some ⟨q, 0, none⟩), .int .i64 0]) ∧ TabD w' w.heap.size q (.slice none 0 0) tm0 ∧ Below w.heap.size w w' := by
  refine (newD_ 151587081 167772160 8 w (by omega) (by omega) (by omega)).mono ?_
  rintro e w' ⟨b, ⟨h, _⟩ | ⟨_, p, h, T⟩⟩
  · rw [ex_9.2.2] at h; cases h
  · exact ⟨p, h, T, b⟩
theorem TabD.less {w : World} {A B p : Nat} {v : Value} {t : Tm} (h : TabD w B p v t) (hA : A ≤ B) : TabD w A p v t := ⟨h.box, h.row.low hA, Nat.le_trans hA h.low, h.ne, h.fz⟩
theorem five (k : Int) : k % 5 = 2 ∨ k % 5 = 3 ∨ k % 5 = 4 ∨ (k % 5 ≠ 2 ∧ k % 5 ≠ 3 ∧ k % 5 ≠ 4) := by omega
/-- What a round leaves behind what was done. -/
structure PlayR (x : Ac) (q : Nat) (w wr wx : World) (y3 y9 : Value) : Prop where
  same : y9 = .bool true
  left_ : ∃ (p2 : Nat) (v2 v3 : Value) (t2 : Tm), y3 = .pointer (some ⟨p2, 0, none⟩) ∧ Below w.heap.size w wx ∧ TabC wx w.heap.size p2 v2 t2 ∧ TabD wx w.heap.size q v3 t2 ∧ Apart p2 v2 q v3 ∧ t2.Good ∧ Box19 wx wr.heap.size (.int .u8 x.kd) (.int .i64 x.at_) (.int .u8 x.d.d0) (.int .u8 x.d.d1) (.int .u8 x.d.d2) (.int .u8 x.d.d3) (.int .u8 x.d.d4) (.int .u8 x.d.d5) (.int .i64 x.r.k) (.int .u8 x.r.pr) (.int .u32 (x.r.si : Int)) (.int .i64 x.r.sb) (.int .u32 (x.r.di : Int)) (.int .i64 x.r.db) (.int .u32 (x.r.ex : Int)) (.int .u16 x.r.fr) (.int .u16 x.r.to) (.int .u32 (x.r.ii : Int)) (.int .u16 x.r.ip)
set_option maxHeartbeats 8000000 in
set_option maxRecDepth 100000 in
theorem arm1 {c : Code} (hc : (Try.f3.body.bind (blockIn 2)) = some c) {x0 x1 x2 x4 x6 x7 x10 x11 x12 x13 x14 x15 x16 x17 x18 x19 x20 x21 x22 x23 x24 x25 x26 x27 x28 x29 x30 x31 x32 x33 x34 x35 x36 x37 x38 x39 x40 x41 x42 x44 x45 x46 x47 x48 x49 x50 x51 x52 x53 x54 x55 x56 x57 x58 x59 x60 x61 x62 x63 x64 x65 x66 x67 x68 x69 x70 x71 x72 x73 x74 x75 x76 x77 x78 x79 x80 x81 x82 x83 x84 x85 x86 x87 x88 x89 x90 x91 x92 x93 x94 x95 x96 x97 x98 x99 x100 x101 x102 x103 x104 x105 x106 x107 x108 x109 x110 x111 x112 x113 x114 x115 x116 x117 x118 x119 x120 x121 x122 x123 x124 x125 x126 x127 x128 x129 x130 x131 x132 x133 x134 x135 x136 x137 x138 x139 : Value} {Q_ : Exit → Act → World → Prop} (x : Ac) (OK : Hid x.Ok) (t : Tm) (G : t.Good) (p q : Nat) (v v' : Value) (w wr u11 : World) (B : Below w.heap.size w u11) (T : TabC u11 w.heap.size p v t) (U : TabD u11 w.heap.size q v' t) (ap : Apart p v q v') (X : Box19 u11 wr.heap.size (.int .u8 x.kd) (.int .i64 x.at_) (.int .u8 x.d.d0) (.int .u8 x.d.d1) (.int .u8 x.d.d2) (.int .u8 x.d.d3) (.int .u8 x.d.d4) (.int .u8 x.d.d5) (.int .i64 x.r.k) (.int .u8 x.r.pr) (.int .u32 (x.r.si : Int)) (.int .i64 x.r.sb) (.int .u32 (x.r.di : Int)) (.int .i64 x.r.db) (.int .u32 (x.r.ex : Int)) (.int .u16 x.r.fr) (.int .u16 x.r.to) (.int .u32 (x.r.ii : Int)) (.int .u16 x.r.ip)) (nfT : ¬ footC p v wr.heap.size) (nfU : ¬ footC q v' wr.heap.size)
    (hP : ∀ c (a : Act) d v w, Q_ (.panic c) (a.put d v) w → Q_ (.panic c) a w) (hQ : ∀ (y2 y3 y9 y10 y44 y45 y46 y47 y48 y49 y50 y51 y52 y53 y54 y55 y56 y57 y58 y59 y60 y61 y62 y63 y64 y65 y66 y67 y68 y69 y70 y71 y72 y73 y74 y75 y76 y77 y78 y79 y80 y81 y82 y83 y84 y85 y86 y87 y88 y89 y90 y91 y92 y93 y94 y95 y96 y97 y98 y99 y100 y101 y102 y103 y104 y105 y106 y107 y108 y109 y110 y111 y112 y113 y114 y115 y116 y117 y118 y119 y120 y121 y122 y123 y124 y125 y126 y127 y128 : Value) (wx : World), PlayR x q w wr wx y3 y9 → Q_ .normal ⟨#[x0, x1, y2, y3, x4, .pointer (some ⟨q, 0, none⟩), x6, x7, .pointer (some ⟨wr.heap.size, 0, none⟩), y9, y10, x11, x12, x13, x14, x15, x16, x17, x18, x19, x20, x21, x22, x23, x24, x25, x26, x27, x28, x29, x30, x31, x32, x33, x34, x35, x36, x37, x38, x39, x40, x41, x42, .int .u8 2, y44, y45, y46, y47, y48, y49, y50, y51, y52, y53, y54, y55, y56, y57, y58, y59, y60, y61, y62, y63, y64, y65, y66, y67, y68, y69, y70, y71, y72, y73, y74, y75, y76, y77, y78, y79, y80, y81, y82, y83, y84, y85, y86, y87, y88, y89, y90, y91, y92, y93, y94, y95, y96, y97, y98, y99, y100, y101, y102, y103, y104, y105, y106, y107, y108, y109, y110, y111, y112, y113, y114, y115, y116, y117, y118, y119, y120, y121, y122, y123, y124, y125, y126, y127, y128, x129, x130, x131, x132, x133, x134, x135, x136, x137, x138, x139], []⟩ wx) :
    Code.wp Try.prog c Q_ ⟨#[x0, x1, x2, .pointer (some ⟨p, 0, none⟩), x4, .pointer (some ⟨q, 0, none⟩), x6, x7, .pointer (some ⟨wr.heap.size, 0, none⟩), .bool true, x10, x11, x12, x13, x14, x15, x16, x17, x18, x19, x20, x21, x22, x23, x24, x25, x26, x27, x28, x29, x30, x31, x32, x33, x34, x35, x36, x37, x38, x39, x40, x41, x42, .int .u8 2, x44, x45, x46, x47, x48, x49, x50, x51, x52, x53, x54, x55, x56, x57, x58, x59, x60, x61, x62, x63, x64, x65, x66, x67, x68, x69, x70, x71, x72, x73, x74, x75, x76, x77, x78, x79, x80, x81, x82, x83, x84, x85, x86, x87, x88, x89, x90, x91, x92, x93, x94, x95, x96, x97, x98, x99, x100, x101, x102, x103, x104, x105, x106, x107, x108, x109, x110, x111, x112, x113, x114, x115, x116, x117, x118, x119, x120, x121, x122, x123, x124, x125, x126, x127, x128, x129, x130, x131, x132, x133, x134, x135, x136, x137, x138, x139], []⟩ u11 := by
  conv at hc => lhs; whnf
  injection hc with hc
  subst hc
  have KC : ∀ (u : World) (H : TabC u w.heap.size p v t), _ := fun u H => checC_ t w.heap.size p v u H G x.r OK.out.r
  have KD : ∀ (u : World) (H : TabD u w.heap.size q v' t), _ := fun u H => checD_ t w.heap.size q v' u H G x.r OK.out.r
  have AC : ∀ (u : World) (H : TabC u w.heap.size p v t), _ := fun u H => addC_n t w.heap.size p v u H G x.at_ x.r OK.out.r OK.out.at_.1 OK.out.at_.2
  have AD : ∀ (u : World) (H : TabD u w.heap.size q v' t), _ := fun u H => addD_n t w.heap.size q v' u H G x.at_ x.r OK.out.r OK.out.at_.1 OK.out.at_.2
  have G2 : (ruAddT t x.at_ x.r).Good := G.add OK.out.r
  generalize ruCheckE t x.r = ck at *
  generalize ruAddE t x.at_ x.r = ae at *
  generalize ruAddT t x.at_ x.r = t2 at *
  clear G
  obtain ⟨_, x1_0, x1_1, x1_2, x1_3, x1_4, x1_5, x1_6, x1_7, x1_8, x1_9, x1_10, x1_11, x1_12, x1_13, x1_14, x1_15, x1_16, x1_17, x1_18⟩ := id X
  go_upto_region 15 with fail
  clear x1_0 x1_1 x1_2 x1_3 x1_4 x1_5 x1_6 x1_7 x1_8 x1_9 x1_10 x1_11 x1_12 x1_13 x1_14 x1_15 x1_16 x1_17 x1_18
  refine wp_region_held_drew (S := (fun w' => w'.cell? ⟨wr.heap.size, 0, none⟩ = some (.int .u8 x.kd) ∧ w'.cell? ⟨wr.heap.size, 1, none⟩ = some (.int .i64 x.at_) ∧ w'.cell? ⟨wr.heap.size, 2, none⟩ = some (.int .u8 x.d.d0) ∧ w'.cell? ⟨wr.heap.size, 3, none⟩ = some (.int .u8 x.d.d1) ∧ w'.cell? ⟨wr.heap.size, 4, none⟩ = some (.int .u8 x.d.d2) ∧ w'.cell? ⟨wr.heap.size, 5, none⟩ = some (.int .u8 x.d.d3) ∧ w'.cell? ⟨wr.heap.size, 6, none⟩ = some (.int .u8 x.d.d4) ∧ w'.cell? ⟨wr.heap.size, 7, none⟩ = some (.int .u8 x.d.d5) ∧ w'.cell? ⟨wr.heap.size, 8, none⟩ = some (.int .i64 x.r.k) ∧ w'.cell? ⟨wr.heap.size, 9, none⟩ = some (.int .u8 x.r.pr) ∧ w'.cell? ⟨wr.heap.size, 10, none⟩ = some (.int .u32 (x.r.si : Int)) ∧ w'.cell? ⟨wr.heap.size, 11, none⟩ = some (.int .i64 x.r.sb) ∧ w'.cell? ⟨wr.heap.size, 12, none⟩ = some (.int .u32 (x.r.di : Int)) ∧ w'.cell? ⟨wr.heap.size, 13, none⟩ = some (.int .i64 x.r.db) ∧ w'.cell? ⟨wr.heap.size, 14, none⟩ = some (.int .u32 (x.r.ex : Int)) ∧ w'.cell? ⟨wr.heap.size, 15, none⟩ = some (.int .u16 x.r.fr) ∧ w'.cell? ⟨wr.heap.size, 16, none⟩ = some (.int .u16 x.r.to) ∧ w'.cell? ⟨wr.heap.size, 17, none⟩ = some (.int .u32 (x.r.ii : Int)) ∧ w'.cell? ⟨wr.heap.size, 18, none⟩ = some (.int .u16 x.r.ip))) (by kernel_rfl) ?_ (fun hHeld => ?_)
  · exact ⟨X.2.1, X.2.2.1, X.2.2.2.1, X.2.2.2.2.1, X.2.2.2.2.2.1, X.2.2.2.2.2.2.1, X.2.2.2.2.2.2.2.1, X.2.2.2.2.2.2.2.2.1, X.2.2.2.2.2.2.2.2.2.1, X.2.2.2.2.2.2.2.2.2.2.1, X.2.2.2.2.2.2.2.2.2.2.2.1, X.2.2.2.2.2.2.2.2.2.2.2.2.1, X.2.2.2.2.2.2.2.2.2.2.2.2.2.1, X.2.2.2.2.2.2.2.2.2.2.2.2.2.2.1, X.2.2.2.2.2.2.2.2.2.2.2.2.2.2.2.1, X.2.2.2.2.2.2.2.2.2.2.2.2.2.2.2.2.1, X.2.2.2.2.2.2.2.2.2.2.2.2.2.2.2.2.2.1, X.2.2.2.2.2.2.2.2.2.2.2.2.2.2.2.2.2.2.1, X.2.2.2.2.2.2.2.2.2.2.2.2.2.2.2.2.2.2.2⟩
  have X_301 := X.on ((Below.refl _ _).drew)
  have B302 := B.drew
  clear X B
  have T_303 := T.drew
  clear T
  have U_304 := U.drew
  clear U
  obtain ⟨u51, hu51⟩ : ∃ x_ : World, x_ = u11.drew := ⟨_, rfl⟩
  rw [← hu51] at X_301 T_303 U_304 B302 hHeld ⊢
  clear hu51
  refine wpAnyH_take (i := 0) (oi := _) (v := ?_) rfl (by kernel_rfl) (by kernel_rfl) (by kernel_rfl) (fun _ _ _ h => hP _ _ _ _ _ h) (Or.inl ⟨by kernel_rfl, ?_⟩) (by assumption) ?_
  rotate_left
  · intro w hSw
    clear hSw
    go_simp
    with_reducible rfl
  try simp only [Act.put, List.setIfInBounds_toArray, List.set_cons_zero, List.set_cons_succ]
  refine wpAnyH_take (i := 1) (oi := _) (v := ?_) rfl (by kernel_rfl) (by kernel_rfl) (by kernel_rfl) (fun _ _ _ h => hP _ _ _ _ _ h) (Or.inl ⟨by kernel_rfl, ?_⟩) (by assumption) ?_
  rotate_left
  · intro w hSw
    clear hSw
    go_simp
    with_reducible rfl
  try simp only [Act.put, List.setIfInBounds_toArray, List.set_cons_zero, List.set_cons_succ]
  refine wpAnyH_take (i := 2) (oi := _) (v := ?_) rfl (by kernel_rfl) (by kernel_rfl) (by kernel_rfl) (fun _ _ _ h => hP _ _ _ _ _ h) (Or.inl ⟨by kernel_rfl, ?_⟩) (by assumption) ?_
  rotate_left
  · intro w hSw
    (try dsimp only at hSw)
    obtain ⟨hq0, hq1, hq2, hq3, hq4, hq5, hq6, hq7, hq8, hq9, hq10, hq11, hq12, hq13, hq14, hq15, hq16, hq17, hq18⟩ := hSw
    go_simp
    with_reducible rfl
  try simp only [Act.put, List.setIfInBounds_toArray, List.set_cons_zero, List.set_cons_succ]
  refine wpAnyH_take (i := 4) (oi := _) (v := ?_) rfl (by kernel_rfl) (by kernel_rfl) (by kernel_rfl) (fun _ _ _ h => hP _ _ _ _ _ h) (Or.inl ⟨by kernel_rfl, ?_⟩) (by assumption) ?_
  rotate_left
  · intro w hSw
    clear hSw
    go_simp
    with_reducible rfl
  try simp only [Act.put, List.setIfInBounds_toArray, List.set_cons_zero, List.set_cons_succ]
  refine wpAnyH_take (i := 5) (oi := _) (v := ?_) rfl (by kernel_rfl) (by kernel_rfl) (by kernel_rfl) (fun _ _ _ h => hP _ _ _ _ _ h) (Or.inl ⟨by kernel_rfl, ?_⟩) (by assumption) ?_
  rotate_left
  · intro w hSw
    clear hSw
    go_simp
    with_reducible rfl
  try simp only [Act.put, List.setIfInBounds_toArray, List.set_cons_zero, List.set_cons_succ]
  refine wpAnyH_take (i := 6) (oi := _) (v := ?_) rfl (by kernel_rfl) (by kernel_rfl) (by kernel_rfl) (fun _ _ _ h => hP _ _ _ _ _ h) (Or.inl ⟨by kernel_rfl, ?_⟩) (by assumption) ?_
  rotate_left
  · intro w hSw
    (try dsimp only at hSw)
    obtain ⟨hq0, hq1, hq2, hq3, hq4, hq5, hq6, hq7, hq8, hq9, hq10, hq11, hq12, hq13, hq14, hq15, hq16, hq17, hq18⟩ := hSw
    go_simp
    with_reducible rfl
  try simp only [Act.put, List.setIfInBounds_toArray, List.set_cons_zero, List.set_cons_succ]
  refine wpAnyH_ready (rs := [3]) (by kernel_rfl) (by simp) ?_
  refine AllReadyH.cons (o := _) rfl (fun K hK => ?_) AllReadyH.nil
  go_simp
  refine (KC _ T_303).mono ?_; rintro e w52 ⟨rfl, x52⟩
  have T_305 := T_303.on x52
  clear T_303
  have U_306 := U_304.on x52
  clear U_304
  have X_307 := X_301.on x52
  have B308 := B302.trans (x52.mono B302.size)
  clear X_301 B302 x52
  show K _ _
  refine hK.out _ _ ⟨X_307.2.1, X_307.2.2.1, X_307.2.2.2.1, X_307.2.2.2.2.1, X_307.2.2.2.2.2.1, X_307.2.2.2.2.2.2.1, X_307.2.2.2.2.2.2.2.1, X_307.2.2.2.2.2.2.2.2.1, X_307.2.2.2.2.2.2.2.2.2.1, X_307.2.2.2.2.2.2.2.2.2.2.1, X_307.2.2.2.2.2.2.2.2.2.2.2.1, X_307.2.2.2.2.2.2.2.2.2.2.2.2.1, X_307.2.2.2.2.2.2.2.2.2.2.2.2.2.1, X_307.2.2.2.2.2.2.2.2.2.2.2.2.2.2.1, X_307.2.2.2.2.2.2.2.2.2.2.2.2.2.2.2.1, X_307.2.2.2.2.2.2.2.2.2.2.2.2.2.2.2.2.1, X_307.2.2.2.2.2.2.2.2.2.2.2.2.2.2.2.2.2.1, X_307.2.2.2.2.2.2.2.2.2.2.2.2.2.2.2.2.2.2.1, X_307.2.2.2.2.2.2.2.2.2.2.2.2.2.2.2.2.2.2.2⟩ (fun hH1 => ?_)
  clear hK K hHeld
  have hHeld := hH1
  clear hH1
  try simp only [Act.put, List.setIfInBounds_toArray, List.set_cons_zero, List.set_cons_succ]
  refine wpAnyH_ready (rs := [7]) (by kernel_rfl) (by simp) ?_
  refine AllReadyH.cons (o := _) rfl (fun K hK => ?_) AllReadyH.nil
  go_simp
  refine (KD _ U_306).mono ?_; rintro e w53 ⟨rfl, x53⟩
  have T_309 := T_305.on x53
  clear T_305
  have U_310 := U_306.on x53
  clear U_306
  have X_311 := X_307.on x53
  have B312 := B308.trans (x53.mono B308.size)
  clear X_307 B308 x53
  show K _ _
  refine hK.out _ _ ⟨X_311.2.1, X_311.2.2.1, X_311.2.2.2.1, X_311.2.2.2.2.1, X_311.2.2.2.2.2.1, X_311.2.2.2.2.2.2.1, X_311.2.2.2.2.2.2.2.1, X_311.2.2.2.2.2.2.2.2.1, X_311.2.2.2.2.2.2.2.2.2.1, X_311.2.2.2.2.2.2.2.2.2.2.1, X_311.2.2.2.2.2.2.2.2.2.2.2.1, X_311.2.2.2.2.2.2.2.2.2.2.2.2.1, X_311.2.2.2.2.2.2.2.2.2.2.2.2.2.1, X_311.2.2.2.2.2.2.2.2.2.2.2.2.2.2.1, X_311.2.2.2.2.2.2.2.2.2.2.2.2.2.2.2.1, X_311.2.2.2.2.2.2.2.2.2.2.2.2.2.2.2.2.1, X_311.2.2.2.2.2.2.2.2.2.2.2.2.2.2.2.2.2.1, X_311.2.2.2.2.2.2.2.2.2.2.2.2.2.2.2.2.2.2.1, X_311.2.2.2.2.2.2.2.2.2.2.2.2.2.2.2.2.2.2.2⟩ (fun hH2 => ?_)
  clear hK K hHeld
  have hHeld := hH2
  clear hH2
  try simp only [Act.put, List.setIfInBounds_toArray, List.set_cons_zero, List.set_cons_succ]
  refine wpAnyH_take (i := 8) (oi := _) (v := ?_) rfl (by kernel_rfl) (by kernel_rfl) (by kernel_rfl) (fun _ _ _ h => hP _ _ _ _ _ h) (Or.inl ⟨by kernel_rfl, ?_⟩) (by assumption) ?_
  rotate_left
  · intro w hSw
    clear hSw
    go_simp
    with_reducible rfl
  try simp only [Act.put, List.setIfInBounds_toArray, List.set_cons_zero, List.set_cons_succ]
  refine wpAnyH_take (i := 9) (oi := _) (v := ?_) rfl (by kernel_rfl) (by kernel_rfl) (by kernel_rfl) (fun _ _ _ h => hP _ _ _ _ _ h) (Or.inl ⟨by kernel_rfl, ?_⟩) (by assumption) ?_
  rotate_left
  · intro w hSw
    clear hSw
    go_simp
    with_reducible rfl
  try simp only [Act.put, List.setIfInBounds_toArray, List.set_cons_zero, List.set_cons_succ]
  refine wpAnyH_take (i := 10) (oi := _) (v := ?_) rfl (by kernel_rfl) (by kernel_rfl) (by kernel_rfl) (fun _ _ _ h => hP _ _ _ _ _ h) (Or.inl ⟨by kernel_rfl, ?_⟩) (by assumption) ?_
  rotate_left
  · intro w hSw
    clear hSw
    go_simp
    with_reducible rfl
  try simp only [Act.put, List.setIfInBounds_toArray, List.set_cons_zero, List.set_cons_succ]
  refine wpAnyH_take (i := 11) (oi := _) (v := ?_) rfl (by kernel_rfl) (by kernel_rfl) (by kernel_rfl) (fun _ _ _ h => hP _ _ _ _ _ h) (Or.inl ⟨by kernel_rfl, ?_⟩) (by assumption) ?_
  rotate_left
  · intro w hSw
    clear hSw
    go_simp
    with_reducible rfl
  try simp only [Act.put, List.setIfInBounds_toArray, List.set_cons_zero, List.set_cons_succ]
  refine wpAnyH_take (i := 12) (oi := _) (v := ?_) rfl (by kernel_rfl) (by kernel_rfl) (by kernel_rfl) (fun _ _ _ h => hP _ _ _ _ _ h) (Or.inl ⟨by kernel_rfl, ?_⟩) (by assumption) ?_
  rotate_left
  · intro w hSw
    (try dsimp only at hSw)
    obtain ⟨hq0, hq1, hq2, hq3, hq4, hq5, hq6, hq7, hq8, hq9, hq10, hq11, hq12, hq13, hq14, hq15, hq16, hq17, hq18⟩ := hSw
    go_simp
    with_reducible rfl
  try simp only [Act.put, List.setIfInBounds_toArray, List.set_cons_zero, List.set_cons_succ]
  refine wpAnyH_take (i := 13) (oi := _) (v := ?_) rfl (by kernel_rfl) (by kernel_rfl) (by kernel_rfl) (fun _ _ _ h => hP _ _ _ _ _ h) (Or.inl ⟨by kernel_rfl, ?_⟩) (by assumption) ?_
  rotate_left
  · intro w hSw
    clear hSw
    go_simp
    with_reducible rfl
  try simp only [Act.put, List.setIfInBounds_toArray, List.set_cons_zero, List.set_cons_succ]
  refine wpAnyH_take (i := 14) (oi := _) (v := ?_) rfl (by kernel_rfl) (by kernel_rfl) (by kernel_rfl) (fun _ _ _ h => hP _ _ _ _ _ h) (Or.inl ⟨by kernel_rfl, ?_⟩) (by assumption) ?_
  rotate_left
  · intro w hSw
    (try dsimp only at hSw)
    obtain ⟨hq0, hq1, hq2, hq3, hq4, hq5, hq6, hq7, hq8, hq9, hq10, hq11, hq12, hq13, hq14, hq15, hq16, hq17, hq18⟩ := hSw
    go_simp
    with_reducible rfl
  try simp only [Act.put, List.setIfInBounds_toArray, List.set_cons_zero, List.set_cons_succ]
  refine wpAnyH_take (i := 16) (oi := _) (v := ?_) rfl (by kernel_rfl) (by kernel_rfl) (by kernel_rfl) (fun _ _ _ h => hP _ _ _ _ _ h) (Or.inl ⟨by kernel_rfl, ?_⟩) (by assumption) ?_
  rotate_left
  · intro w hSw
    clear hSw
    go_simp
    with_reducible rfl
  try simp only [Act.put, List.setIfInBounds_toArray, List.set_cons_zero, List.set_cons_succ]
  refine wpAnyH_take (i := 17) (oi := _) (v := ?_) rfl (by kernel_rfl) (by kernel_rfl) (by kernel_rfl) (fun _ _ _ h => hP _ _ _ _ _ h) (Or.inl ⟨by kernel_rfl, ?_⟩) (by assumption) ?_
  rotate_left
  · intro w hSw
    clear hSw
    go_simp
    with_reducible rfl
  try simp only [Act.put, List.setIfInBounds_toArray, List.set_cons_zero, List.set_cons_succ]
  refine wpAnyH_take (i := 18) (oi := _) (v := ?_) rfl (by kernel_rfl) (by kernel_rfl) (by kernel_rfl) (fun _ _ _ h => hP _ _ _ _ _ h) (Or.inl ⟨by kernel_rfl, ?_⟩) (by assumption) ?_
  rotate_left
  · intro w hSw
    (try dsimp only at hSw)
    obtain ⟨hq0, hq1, hq2, hq3, hq4, hq5, hq6, hq7, hq8, hq9, hq10, hq11, hq12, hq13, hq14, hq15, hq16, hq17, hq18⟩ := hSw
    go_simp
    with_reducible rfl
  try simp only [Act.put, List.setIfInBounds_toArray, List.set_cons_zero, List.set_cons_succ]
  refine wpAnyH_take (i := 19) (oi := _) (v := ?_) rfl (by kernel_rfl) (by kernel_rfl) (by kernel_rfl) (fun _ _ _ h => hP _ _ _ _ _ h) (Or.inl ⟨by kernel_rfl, ?_⟩) (by assumption) ?_
  rotate_left
  · intro w hSw
    clear hSw
    go_simp
    with_reducible rfl
  try simp only [Act.put, List.setIfInBounds_toArray, List.set_cons_zero, List.set_cons_succ]
  refine wpAnyH_take (i := 20) (oi := _) (v := ?_) rfl (by kernel_rfl) (by kernel_rfl) (by kernel_rfl) (fun _ _ _ h => hP _ _ _ _ _ h) (Or.inl ⟨by kernel_rfl, ?_⟩) (by assumption) ?_
  rotate_left
  · intro w hSw
    (try dsimp only at hSw)
    obtain ⟨hq0, hq1, hq2, hq3, hq4, hq5, hq6, hq7, hq8, hq9, hq10, hq11, hq12, hq13, hq14, hq15, hq16, hq17, hq18⟩ := hSw
    go_simp
    with_reducible rfl
  try simp only [Act.put, List.setIfInBounds_toArray, List.set_cons_zero, List.set_cons_succ]
  refine wpAnyH_ready (rs := [15]) (by kernel_rfl) (by simp) ?_
  refine AllReadyH.cons (o := _) rfl (fun K hK => ?_) AllReadyH.nil
  go_simp
  refine (AC _ T_309).mono ?_; rintro e w54 ⟨rfl, v54, T_313, x54, ho54⟩
  have X_314 := X_311.keep x54.size (x54.block _ X_311.1 nfT)
  have nfXT_315 := foot_newer nfT X_311.1 ho54
  have apTU_316 := Apart.kept ap U_310.lt ho54
  have U_317 := U_310.beside x54 (Apart.symm ap)
  have B318 := T_309.after (Nat.le_refl _) B312 x54
  clear nfT X_311 B312 T_309 x54 ho54 ap U_310
  show K _ _
  refine hK.out _ _ ⟨X_314.2.1, X_314.2.2.1, X_314.2.2.2.1, X_314.2.2.2.2.1, X_314.2.2.2.2.2.1, X_314.2.2.2.2.2.2.1, X_314.2.2.2.2.2.2.2.1, X_314.2.2.2.2.2.2.2.2.1, X_314.2.2.2.2.2.2.2.2.2.1, X_314.2.2.2.2.2.2.2.2.2.2.1, X_314.2.2.2.2.2.2.2.2.2.2.2.1, X_314.2.2.2.2.2.2.2.2.2.2.2.2.1, X_314.2.2.2.2.2.2.2.2.2.2.2.2.2.1, X_314.2.2.2.2.2.2.2.2.2.2.2.2.2.2.1, X_314.2.2.2.2.2.2.2.2.2.2.2.2.2.2.2.1, X_314.2.2.2.2.2.2.2.2.2.2.2.2.2.2.2.2.1, X_314.2.2.2.2.2.2.2.2.2.2.2.2.2.2.2.2.2.1, X_314.2.2.2.2.2.2.2.2.2.2.2.2.2.2.2.2.2.2.1, X_314.2.2.2.2.2.2.2.2.2.2.2.2.2.2.2.2.2.2.2⟩ (fun hH3 => ?_)
  clear hK K hHeld
  have hHeld := hH3
  clear hH3
  try simp only [Act.put, List.setIfInBounds_toArray, List.set_cons_zero, List.set_cons_succ]
  refine wpAnyH_ready (rs := [21]) (by kernel_rfl) (by simp) ?_
  refine AllReadyH.cons (o := _) rfl (fun K hK => ?_) AllReadyH.nil
  go_simp
  refine (AD _ U_317).mono ?_; rintro e w55 ⟨rfl, v55, U_319, x55, ho55⟩
  have X_320 := X_314.keep x55.size (x55.block _ X_314.1 nfU)
  have nfXU_321 := foot_newer nfU X_314.1 ho55
  have apUT_322 := Apart.kept (Apart.symm apTU_316) T_313.lt ho55
  have T_323 := T_313.beside x55 (Apart.symm (Apart.symm apTU_316))
  have B324 := U_317.after (Nat.le_refl _) B318 x55
  clear nfU X_314 B318 U_317 x55 ho55 apTU_316 T_313
  show K _ _
  refine hK.out _ _ ⟨X_320.2.1, X_320.2.2.1, X_320.2.2.2.1, X_320.2.2.2.2.1, X_320.2.2.2.2.2.1, X_320.2.2.2.2.2.2.1, X_320.2.2.2.2.2.2.2.1, X_320.2.2.2.2.2.2.2.2.1, X_320.2.2.2.2.2.2.2.2.2.1, X_320.2.2.2.2.2.2.2.2.2.2.1, X_320.2.2.2.2.2.2.2.2.2.2.2.1, X_320.2.2.2.2.2.2.2.2.2.2.2.2.1, X_320.2.2.2.2.2.2.2.2.2.2.2.2.2.1, X_320.2.2.2.2.2.2.2.2.2.2.2.2.2.2.1, X_320.2.2.2.2.2.2.2.2.2.2.2.2.2.2.2.1, X_320.2.2.2.2.2.2.2.2.2.2.2.2.2.2.2.2.1, X_320.2.2.2.2.2.2.2.2.2.2.2.2.2.2.2.2.2.1, X_320.2.2.2.2.2.2.2.2.2.2.2.2.2.2.2.2.2.2.1, X_320.2.2.2.2.2.2.2.2.2.2.2.2.2.2.2.2.2.2.2⟩ (fun hH4 => ?_)
  clear hK K hHeld
  have hHeld := hH4
  clear hH4
  try simp only [Act.put, List.setIfInBounds_toArray, List.set_cons_zero, List.set_cons_succ]
  refine wpAnyH_take (i := 22) (oi := _) (v := ?_) rfl (by kernel_rfl) (by kernel_rfl) (by kernel_rfl) (fun _ _ _ h => hP _ _ _ _ _ h) (Or.inl ⟨by kernel_rfl, ?_⟩) (by assumption) ?_
  rotate_left
  · intro w hSw
    clear hSw
    go_simp
    with_reducible rfl
  try simp only [Act.put, List.setIfInBounds_toArray, List.set_cons_zero, List.set_cons_succ]
  refine wpAnyH_take (i := 23) (oi := _) (v := ?_) rfl (by kernel_rfl) (by kernel_rfl) (by kernel_rfl) (fun _ _ _ h => hP _ _ _ _ _ h) (Or.inl ⟨by kernel_rfl, ?_⟩) (by assumption) ?_
  rotate_left
  · intro w hSw
    clear hSw
    go_simp
    with_reducible rfl
  try simp only [Act.put, List.setIfInBounds_toArray, List.set_cons_zero, List.set_cons_succ]
  refine wpAnyH_take (i := 24) (oi := _) (v := ?_) rfl (by kernel_rfl) (by kernel_rfl) (by kernel_rfl) (fun _ _ _ h => hP _ _ _ _ _ h) (Or.inl ⟨by kernel_rfl, ?_⟩) (by assumption) ?_
  rotate_left
  · intro w hSw
    clear hSw
    go_simp
    with_reducible rfl
  try simp only [Act.put, List.setIfInBounds_toArray, List.set_cons_zero, List.set_cons_succ]
  try simp only [List.getElem_toArray, List.getElem_cons_succ, List.getElem_cons_zero, Act.put, List.setIfInBounds_toArray, List.set_cons_zero, List.set_cons_succ]
  refine wpAnyH_done (by kernel_rfl) ?_ _
  clear hHeld
  go_wp2
  exact ⟨rfl, _, _, _, _, rfl, B324, T_323, U_319, (Apart.symm apUT_322), G2, X_320⟩
set_option maxHeartbeats 8000000 in
set_option maxRecDepth 100000 in
theorem arm2 {c : Code} (hc : (Try.f3.body.bind (blockIn 2)) = some c) {x0 x1 x2 x4 x6 x7 x10 x11 x12 x13 x14 x15 x16 x17 x18 x19 x20 x21 x22 x23 x24 x25 x26 x27 x28 x29 x30 x31 x32 x33 x34 x35 x36 x37 x38 x39 x40 x41 x42 x44 x45 x46 x47 x48 x49 x50 x51 x52 x53 x54 x55 x56 x57 x58 x59 x60 x61 x62 x63 x64 x65 x66 x67 x68 x69 x70 x71 x72 x73 x74 x75 x76 x77 x78 x79 x80 x81 x82 x83 x84 x85 x86 x87 x88 x89 x90 x91 x92 x93 x94 x95 x96 x97 x98 x99 x100 x101 x102 x103 x104 x105 x106 x107 x108 x109 x110 x111 x112 x113 x114 x115 x116 x117 x118 x119 x120 x121 x122 x123 x124 x125 x126 x127 x128 x129 x130 x131 x132 x133 x134 x135 x136 x137 x138 x139 : Value} {Q_ : Exit → Act → World → Prop} (x : Ac) (OK : Hid x.Ok) (t : Tm) (G : t.Good) (p q : Nat) (v v' : Value) (w wr u11 : World) (B : Below w.heap.size w u11) (T : TabC u11 w.heap.size p v t) (U : TabD u11 w.heap.size q v' t) (ap : Apart p v q v') (X : Box19 u11 wr.heap.size (.int .u8 x.kd) (.int .i64 x.at_) (.int .u8 x.d.d0) (.int .u8 x.d.d1) (.int .u8 x.d.d2) (.int .u8 x.d.d3) (.int .u8 x.d.d4) (.int .u8 x.d.d5) (.int .i64 x.r.k) (.int .u8 x.r.pr) (.int .u32 (x.r.si : Int)) (.int .i64 x.r.sb) (.int .u32 (x.r.di : Int)) (.int .i64 x.r.db) (.int .u32 (x.r.ex : Int)) (.int .u16 x.r.fr) (.int .u16 x.r.to) (.int .u32 (x.r.ii : Int)) (.int .u16 x.r.ip)) (nfT : ¬ footC p v wr.heap.size) (nfU : ¬ footC q v' wr.heap.size)
    (hP : ∀ c (a : Act) d v w, Q_ (.panic c) (a.put d v) w → Q_ (.panic c) a w) (hQ : ∀ (y2 y3 y9 y10 y44 y45 y46 y47 y48 y49 y50 y51 y52 y53 y54 y55 y56 y57 y58 y59 y60 y61 y62 y63 y64 y65 y66 y67 y68 y69 y70 y71 y72 y73 y74 y75 y76 y77 y78 y79 y80 y81 y82 y83 y84 y85 y86 y87 y88 y89 y90 y91 y92 y93 y94 y95 y96 y97 y98 y99 y100 y101 y102 y103 y104 y105 y106 y107 y108 y109 y110 y111 y112 y113 y114 y115 y116 y117 y118 y119 y120 y121 y122 y123 y124 y125 y126 y127 y128 : Value) (wx : World), PlayR x q w wr wx y3 y9 → Q_ .normal ⟨#[x0, x1, y2, y3, x4, .pointer (some ⟨q, 0, none⟩), x6, x7, .pointer (some ⟨wr.heap.size, 0, none⟩), y9, y10, x11, x12, x13, x14, x15, x16, x17, x18, x19, x20, x21, x22, x23, x24, x25, x26, x27, x28, x29, x30, x31, x32, x33, x34, x35, x36, x37, x38, x39, x40, x41, x42, .int .u8 3, y44, y45, y46, y47, y48, y49, y50, y51, y52, y53, y54, y55, y56, y57, y58, y59, y60, y61, y62, y63, y64, y65, y66, y67, y68, y69, y70, y71, y72, y73, y74, y75, y76, y77, y78, y79, y80, y81, y82, y83, y84, y85, y86, y87, y88, y89, y90, y91, y92, y93, y94, y95, y96, y97, y98, y99, y100, y101, y102, y103, y104, y105, y106, y107, y108, y109, y110, y111, y112, y113, y114, y115, y116, y117, y118, y119, y120, y121, y122, y123, y124, y125, y126, y127, y128, x129, x130, x131, x132, x133, x134, x135, x136, x137, x138, x139], []⟩ wx) :
    Code.wp Try.prog c Q_ ⟨#[x0, x1, x2, .pointer (some ⟨p, 0, none⟩), x4, .pointer (some ⟨q, 0, none⟩), x6, x7, .pointer (some ⟨wr.heap.size, 0, none⟩), .bool true, x10, x11, x12, x13, x14, x15, x16, x17, x18, x19, x20, x21, x22, x23, x24, x25, x26, x27, x28, x29, x30, x31, x32, x33, x34, x35, x36, x37, x38, x39, x40, x41, x42, .int .u8 3, x44, x45, x46, x47, x48, x49, x50, x51, x52, x53, x54, x55, x56, x57, x58, x59, x60, x61, x62, x63, x64, x65, x66, x67, x68, x69, x70, x71, x72, x73, x74, x75, x76, x77, x78, x79, x80, x81, x82, x83, x84, x85, x86, x87, x88, x89, x90, x91, x92, x93, x94, x95, x96, x97, x98, x99, x100, x101, x102, x103, x104, x105, x106, x107, x108, x109, x110, x111, x112, x113, x114, x115, x116, x117, x118, x119, x120, x121, x122, x123, x124, x125, x126, x127, x128, x129, x130, x131, x132, x133, x134, x135, x136, x137, x138, x139], []⟩ u11 := by
  conv at hc => lhs; whnf
  injection hc with hc
  subst hc
  have AC : ∀ (u : World) (H : TabC u w.heap.size p v t), _ := fun u H => delC_n t w.heap.size p v u H G x.at_
  have AD : ∀ (u : World) (H : TabD u w.heap.size q v' t), _ := fun u H => delD_n t w.heap.size q v' u H G x.at_
  have G2 : (ruDelT t x.at_).Good := G.del
  generalize ruDelE t x.at_ = ae at *
  generalize ruDelT t x.at_ = t2 at *
  clear G
  obtain ⟨_, x1_0, x1_1, x1_2, x1_3, x1_4, x1_5, x1_6, x1_7, x1_8, x1_9, x1_10, x1_11, x1_12, x1_13, x1_14, x1_15, x1_16, x1_17, x1_18⟩ := id X
  go_upto_region 17 with fail
  clear x1_0 x1_1 x1_2 x1_3 x1_4 x1_5 x1_6 x1_7 x1_8 x1_9 x1_10 x1_11 x1_12 x1_13 x1_14 x1_15 x1_16 x1_17 x1_18
  refine wp_region_held_drew (S := (fun w' => w'.cell? ⟨wr.heap.size, 0, none⟩ = some (.int .u8 x.kd) ∧ w'.cell? ⟨wr.heap.size, 1, none⟩ = some (.int .i64 x.at_) ∧ w'.cell? ⟨wr.heap.size, 2, none⟩ = some (.int .u8 x.d.d0) ∧ w'.cell? ⟨wr.heap.size, 3, none⟩ = some (.int .u8 x.d.d1) ∧ w'.cell? ⟨wr.heap.size, 4, none⟩ = some (.int .u8 x.d.d2) ∧ w'.cell? ⟨wr.heap.size, 5, none⟩ = some (.int .u8 x.d.d3) ∧ w'.cell? ⟨wr.heap.size, 6, none⟩ = some (.int .u8 x.d.d4) ∧ w'.cell? ⟨wr.heap.size, 7, none⟩ = some (.int .u8 x.d.d5) ∧ w'.cell? ⟨wr.heap.size, 8, none⟩ = some (.int .i64 x.r.k) ∧ w'.cell? ⟨wr.heap.size, 9, none⟩ = some (.int .u8 x.r.pr) ∧ w'.cell? ⟨wr.heap.size, 10, none⟩ = some (.int .u32 (x.r.si : Int)) ∧ w'.cell? ⟨wr.heap.size, 11, none⟩ = some (.int .i64 x.r.sb) ∧ w'.cell? ⟨wr.heap.size, 12, none⟩ = some (.int .u32 (x.r.di : Int)) ∧ w'.cell? ⟨wr.heap.size, 13, none⟩ = some (.int .i64 x.r.db) ∧ w'.cell? ⟨wr.heap.size, 14, none⟩ = some (.int .u32 (x.r.ex : Int)) ∧ w'.cell? ⟨wr.heap.size, 15, none⟩ = some (.int .u16 x.r.fr) ∧ w'.cell? ⟨wr.heap.size, 16, none⟩ = some (.int .u16 x.r.to) ∧ w'.cell? ⟨wr.heap.size, 17, none⟩ = some (.int .u32 (x.r.ii : Int)) ∧ w'.cell? ⟨wr.heap.size, 18, none⟩ = some (.int .u16 x.r.ip))) (by kernel_rfl) ?_ (fun hHeld => ?_)
  · exact ⟨X.2.1, X.2.2.1, X.2.2.2.1, X.2.2.2.2.1, X.2.2.2.2.2.1, X.2.2.2.2.2.2.1, X.2.2.2.2.2.2.2.1, X.2.2.2.2.2.2.2.2.1, X.2.2.2.2.2.2.2.2.2.1, X.2.2.2.2.2.2.2.2.2.2.1, X.2.2.2.2.2.2.2.2.2.2.2.1, X.2.2.2.2.2.2.2.2.2.2.2.2.1, X.2.2.2.2.2.2.2.2.2.2.2.2.2.1, X.2.2.2.2.2.2.2.2.2.2.2.2.2.2.1, X.2.2.2.2.2.2.2.2.2.2.2.2.2.2.2.1, X.2.2.2.2.2.2.2.2.2.2.2.2.2.2.2.2.1, X.2.2.2.2.2.2.2.2.2.2.2.2.2.2.2.2.2.1, X.2.2.2.2.2.2.2.2.2.2.2.2.2.2.2.2.2.2.1, X.2.2.2.2.2.2.2.2.2.2.2.2.2.2.2.2.2.2.2⟩
  have X_401 := X.on ((Below.refl _ _).drew)
  have B402 := B.drew
  clear X B
  have T_403 := T.drew
  clear T
  have U_404 := U.drew
  clear U
  obtain ⟨u61, hu61⟩ : ∃ x_ : World, x_ = u11.drew := ⟨_, rfl⟩
  rw [← hu61] at X_401 T_403 U_404 B402 hHeld ⊢
  clear hu61
  refine wpAnyH_take (i := 0) (oi := _) (v := ?_) rfl (by kernel_rfl) (by kernel_rfl) (by kernel_rfl) (fun _ _ _ h => hP _ _ _ _ _ h) (Or.inl ⟨by kernel_rfl, ?_⟩) (by assumption) ?_
  rotate_left
  · intro w hSw
    clear hSw
    go_simp
    with_reducible rfl
  try simp only [Act.put, List.setIfInBounds_toArray, List.set_cons_zero, List.set_cons_succ]
  refine wpAnyH_take (i := 1) (oi := _) (v := ?_) rfl (by kernel_rfl) (by kernel_rfl) (by kernel_rfl) (fun _ _ _ h => hP _ _ _ _ _ h) (Or.inl ⟨by kernel_rfl, ?_⟩) (by assumption) ?_
  rotate_left
  · intro w hSw
    clear hSw
    go_simp
    with_reducible rfl
  try simp only [Act.put, List.setIfInBounds_toArray, List.set_cons_zero, List.set_cons_succ]
  refine wpAnyH_take (i := 2) (oi := _) (v := ?_) rfl (by kernel_rfl) (by kernel_rfl) (by kernel_rfl) (fun _ _ _ h => hP _ _ _ _ _ h) (Or.inl ⟨by kernel_rfl, ?_⟩) (by assumption) ?_
  rotate_left
  · intro w hSw
    (try dsimp only at hSw)
    obtain ⟨hq0, hq1, hq2, hq3, hq4, hq5, hq6, hq7, hq8, hq9, hq10, hq11, hq12, hq13, hq14, hq15, hq16, hq17, hq18⟩ := hSw
    go_simp
    with_reducible rfl
  try simp only [Act.put, List.setIfInBounds_toArray, List.set_cons_zero, List.set_cons_succ]
  refine wpAnyH_take (i := 4) (oi := _) (v := ?_) rfl (by kernel_rfl) (by kernel_rfl) (by kernel_rfl) (fun _ _ _ h => hP _ _ _ _ _ h) (Or.inl ⟨by kernel_rfl, ?_⟩) (by assumption) ?_
  rotate_left
  · intro w hSw
    clear hSw
    go_simp
    with_reducible rfl
  try simp only [Act.put, List.setIfInBounds_toArray, List.set_cons_zero, List.set_cons_succ]
  refine wpAnyH_take (i := 5) (oi := _) (v := ?_) rfl (by kernel_rfl) (by kernel_rfl) (by kernel_rfl) (fun _ _ _ h => hP _ _ _ _ _ h) (Or.inl ⟨by kernel_rfl, ?_⟩) (by assumption) ?_
  rotate_left
  · intro w hSw
    clear hSw
    go_simp
    with_reducible rfl
  try simp only [Act.put, List.setIfInBounds_toArray, List.set_cons_zero, List.set_cons_succ]
  refine wpAnyH_take (i := 6) (oi := _) (v := ?_) rfl (by kernel_rfl) (by kernel_rfl) (by kernel_rfl) (fun _ _ _ h => hP _ _ _ _ _ h) (Or.inl ⟨by kernel_rfl, ?_⟩) (by assumption) ?_
  rotate_left
  · intro w hSw
    (try dsimp only at hSw)
    obtain ⟨hq0, hq1, hq2, hq3, hq4, hq5, hq6, hq7, hq8, hq9, hq10, hq11, hq12, hq13, hq14, hq15, hq16, hq17, hq18⟩ := hSw
    go_simp
    with_reducible rfl
  try simp only [Act.put, List.setIfInBounds_toArray, List.set_cons_zero, List.set_cons_succ]
  refine wpAnyH_ready (rs := [3]) (by kernel_rfl) (by simp) ?_
  refine AllReadyH.cons (o := _) rfl (fun K hK => ?_) AllReadyH.nil
  go_simp
  refine (AC _ T_403).mono ?_; rintro e w62 ⟨rfl, v62, T_405, x62, ho62⟩
  have X_406 := X_401.keep x62.size (x62.block _ X_401.1 nfT)
  have nfXT_407 := foot_newer nfT X_401.1 ho62
  have apTU_408 := Apart.kept ap U_404.lt ho62
  have U_409 := U_404.beside x62 (Apart.symm ap)
  have B410 := T_403.after (Nat.le_refl _) B402 x62
  clear nfT X_401 B402 T_403 x62 ho62 ap U_404
  show K _ _
  refine hK.out _ _ ⟨X_406.2.1, X_406.2.2.1, X_406.2.2.2.1, X_406.2.2.2.2.1, X_406.2.2.2.2.2.1, X_406.2.2.2.2.2.2.1, X_406.2.2.2.2.2.2.2.1, X_406.2.2.2.2.2.2.2.2.1, X_406.2.2.2.2.2.2.2.2.2.1, X_406.2.2.2.2.2.2.2.2.2.2.1, X_406.2.2.2.2.2.2.2.2.2.2.2.1, X_406.2.2.2.2.2.2.2.2.2.2.2.2.1, X_406.2.2.2.2.2.2.2.2.2.2.2.2.2.1, X_406.2.2.2.2.2.2.2.2.2.2.2.2.2.2.1, X_406.2.2.2.2.2.2.2.2.2.2.2.2.2.2.2.1, X_406.2.2.2.2.2.2.2.2.2.2.2.2.2.2.2.2.1, X_406.2.2.2.2.2.2.2.2.2.2.2.2.2.2.2.2.2.1, X_406.2.2.2.2.2.2.2.2.2.2.2.2.2.2.2.2.2.2.1, X_406.2.2.2.2.2.2.2.2.2.2.2.2.2.2.2.2.2.2.2⟩ (fun hH1 => ?_)
  clear hK K hHeld
  have hHeld := hH1
  clear hH1
  try simp only [Act.put, List.setIfInBounds_toArray, List.set_cons_zero, List.set_cons_succ]
  refine wpAnyH_ready (rs := [7]) (by kernel_rfl) (by simp) ?_
  refine AllReadyH.cons (o := _) rfl (fun K hK => ?_) AllReadyH.nil
  go_simp
  refine (AD _ U_409).mono ?_; rintro e w63 ⟨rfl, v63, U_411, x63, ho63⟩
  have X_412 := X_406.keep x63.size (x63.block _ X_406.1 nfU)
  have nfXU_413 := foot_newer nfU X_406.1 ho63
  have apUT_414 := Apart.kept (Apart.symm apTU_408) T_405.lt ho63
  have T_415 := T_405.beside x63 (Apart.symm (Apart.symm apTU_408))
  have B416 := U_409.after (Nat.le_refl _) B410 x63
  clear nfU X_406 B410 U_409 x63 ho63 apTU_408 T_405
  show K _ _
  refine hK.out _ _ ⟨X_412.2.1, X_412.2.2.1, X_412.2.2.2.1, X_412.2.2.2.2.1, X_412.2.2.2.2.2.1, X_412.2.2.2.2.2.2.1, X_412.2.2.2.2.2.2.2.1, X_412.2.2.2.2.2.2.2.2.1, X_412.2.2.2.2.2.2.2.2.2.1, X_412.2.2.2.2.2.2.2.2.2.2.1, X_412.2.2.2.2.2.2.2.2.2.2.2.1, X_412.2.2.2.2.2.2.2.2.2.2.2.2.1, X_412.2.2.2.2.2.2.2.2.2.2.2.2.2.1, X_412.2.2.2.2.2.2.2.2.2.2.2.2.2.2.1, X_412.2.2.2.2.2.2.2.2.2.2.2.2.2.2.2.1, X_412.2.2.2.2.2.2.2.2.2.2.2.2.2.2.2.2.1, X_412.2.2.2.2.2.2.2.2.2.2.2.2.2.2.2.2.2.1, X_412.2.2.2.2.2.2.2.2.2.2.2.2.2.2.2.2.2.2.1, X_412.2.2.2.2.2.2.2.2.2.2.2.2.2.2.2.2.2.2.2⟩ (fun hH2 => ?_)
  clear hK K hHeld
  have hHeld := hH2
  clear hH2
  try simp only [Act.put, List.setIfInBounds_toArray, List.set_cons_zero, List.set_cons_succ]
  refine wpAnyH_take (i := 8) (oi := _) (v := ?_) rfl (by kernel_rfl) (by kernel_rfl) (by kernel_rfl) (fun _ _ _ h => hP _ _ _ _ _ h) (Or.inl ⟨by kernel_rfl, ?_⟩) (by assumption) ?_
  rotate_left
  · intro w hSw
    clear hSw
    go_simp
    with_reducible rfl
  try simp only [Act.put, List.setIfInBounds_toArray, List.set_cons_zero, List.set_cons_succ]
  refine wpAnyH_take (i := 9) (oi := _) (v := ?_) rfl (by kernel_rfl) (by kernel_rfl) (by kernel_rfl) (fun _ _ _ h => hP _ _ _ _ _ h) (Or.inl ⟨by kernel_rfl, ?_⟩) (by assumption) ?_
  rotate_left
  · intro w hSw
    clear hSw
    go_simp
    with_reducible rfl
  try simp only [Act.put, List.setIfInBounds_toArray, List.set_cons_zero, List.set_cons_succ]
  try simp only [List.getElem_toArray, List.getElem_cons_succ, List.getElem_cons_zero, Act.put, List.setIfInBounds_toArray, List.set_cons_zero, List.set_cons_succ]
  refine wpAnyH_done (by kernel_rfl) ?_ _
  clear hHeld
  go_wp2
  exact ⟨rfl, _, _, _, _, rfl, B416, T_415, U_411, (Apart.symm apUT_414), G2, X_412⟩
set_option maxHeartbeats 8000000 in
set_option maxRecDepth 100000 in
theorem arm3 {c : Code} (hc : (Try.f3.body.bind (blockIn 2)) = some c) {x0 x1 x2 x4 x6 x7 x10 x11 x12 x13 x14 x15 x16 x17 x18 x19 x20 x21 x22 x23 x24 x25 x26 x27 x28 x29 x30 x31 x32 x33 x34 x35 x36 x37 x38 x39 x40 x41 x42 x44 x45 x46 x47 x48 x49 x50 x51 x52 x53 x54 x55 x56 x57 x58 x59 x60 x61 x62 x63 x64 x65 x66 x67 x68 x69 x70 x71 x72 x73 x74 x75 x76 x77 x78 x79 x80 x81 x82 x83 x84 x85 x86 x87 x88 x89 x90 x91 x92 x93 x94 x95 x96 x97 x98 x99 x100 x101 x102 x103 x104 x105 x106 x107 x108 x109 x110 x111 x112 x113 x114 x115 x116 x117 x118 x119 x120 x121 x122 x123 x124 x125 x126 x127 x128 x129 x130 x131 x132 x133 x134 x135 x136 x137 x138 x139 : Value} {Q_ : Exit → Act → World → Prop} (x : Ac) (OK : Hid x.Ok) (t : Tm) (G : t.Good) (p q : Nat) (v v' : Value) (w wr u11 : World) (B : Below w.heap.size w u11) (T : TabC u11 w.heap.size p v t) (U : TabD u11 w.heap.size q v' t) (ap : Apart p v q v') (X : Box19 u11 wr.heap.size (.int .u8 x.kd) (.int .i64 x.at_) (.int .u8 x.d.d0) (.int .u8 x.d.d1) (.int .u8 x.d.d2) (.int .u8 x.d.d3) (.int .u8 x.d.d4) (.int .u8 x.d.d5) (.int .i64 x.r.k) (.int .u8 x.r.pr) (.int .u32 (x.r.si : Int)) (.int .i64 x.r.sb) (.int .u32 (x.r.di : Int)) (.int .i64 x.r.db) (.int .u32 (x.r.ex : Int)) (.int .u16 x.r.fr) (.int .u16 x.r.to) (.int .u32 (x.r.ii : Int)) (.int .u16 x.r.ip)) (nfT : ¬ footC p v wr.heap.size) (nfU : ¬ footC q v' wr.heap.size)
    (hP : ∀ c (a : Act) d v w, Q_ (.panic c) (a.put d v) w → Q_ (.panic c) a w) (hQ : ∀ (y2 y3 y9 y10 y44 y45 y46 y47 y48 y49 y50 y51 y52 y53 y54 y55 y56 y57 y58 y59 y60 y61 y62 y63 y64 y65 y66 y67 y68 y69 y70 y71 y72 y73 y74 y75 y76 y77 y78 y79 y80 y81 y82 y83 y84 y85 y86 y87 y88 y89 y90 y91 y92 y93 y94 y95 y96 y97 y98 y99 y100 y101 y102 y103 y104 y105 y106 y107 y108 y109 y110 y111 y112 y113 y114 y115 y116 y117 y118 y119 y120 y121 y122 y123 y124 y125 y126 y127 y128 : Value) (wx : World), PlayR x q w wr wx y3 y9 → Q_ .normal ⟨#[x0, x1, y2, y3, x4, .pointer (some ⟨q, 0, none⟩), x6, x7, .pointer (some ⟨wr.heap.size, 0, none⟩), y9, y10, x11, x12, x13, x14, x15, x16, x17, x18, x19, x20, x21, x22, x23, x24, x25, x26, x27, x28, x29, x30, x31, x32, x33, x34, x35, x36, x37, x38, x39, x40, x41, x42, .int .u8 4, y44, y45, y46, y47, y48, y49, y50, y51, y52, y53, y54, y55, y56, y57, y58, y59, y60, y61, y62, y63, y64, y65, y66, y67, y68, y69, y70, y71, y72, y73, y74, y75, y76, y77, y78, y79, y80, y81, y82, y83, y84, y85, y86, y87, y88, y89, y90, y91, y92, y93, y94, y95, y96, y97, y98, y99, y100, y101, y102, y103, y104, y105, y106, y107, y108, y109, y110, y111, y112, y113, y114, y115, y116, y117, y118, y119, y120, y121, y122, y123, y124, y125, y126, y127, y128, x129, x130, x131, x132, x133, x134, x135, x136, x137, x138, x139], []⟩ wx) :
    Code.wp Try.prog c Q_ ⟨#[x0, x1, x2, .pointer (some ⟨p, 0, none⟩), x4, .pointer (some ⟨q, 0, none⟩), x6, x7, .pointer (some ⟨wr.heap.size, 0, none⟩), .bool true, x10, x11, x12, x13, x14, x15, x16, x17, x18, x19, x20, x21, x22, x23, x24, x25, x26, x27, x28, x29, x30, x31, x32, x33, x34, x35, x36, x37, x38, x39, x40, x41, x42, .int .u8 4, x44, x45, x46, x47, x48, x49, x50, x51, x52, x53, x54, x55, x56, x57, x58, x59, x60, x61, x62, x63, x64, x65, x66, x67, x68, x69, x70, x71, x72, x73, x74, x75, x76, x77, x78, x79, x80, x81, x82, x83, x84, x85, x86, x87, x88, x89, x90, x91, x92, x93, x94, x95, x96, x97, x98, x99, x100, x101, x102, x103, x104, x105, x106, x107, x108, x109, x110, x111, x112, x113, x114, x115, x116, x117, x118, x119, x120, x121, x122, x123, x124, x125, x126, x127, x128, x129, x130, x131, x132, x133, x134, x135, x136, x137, x138, x139], []⟩ u11 := by
  conv at hc => lhs; whnf
  injection hc with hc
  subst hc
  have cp : ∀ (u : World) (H : TabC u w.heap.size p v t), _ := fun u H => copyC_ t w.heap.size p v u H (by have := G.few; omega)
  have ru := fun u => rule_ x.d u OK.out.d
  have AC : ∀ (v : Value) (u : World) (H : TabC u w.heap.size p v t), _ := fun v u H => addC_n t w.heap.size p v u H G 0 (ruleD x.d) (ruleD_ok _ OK.out.d) (by omega) (by omega)
  have G3 : (ruAddT t 0 (ruleD x.d)).Good := G.add (ruleD_ok _ OK.out.d)
  generalize ruleD x.d = rr at *
  generalize ruAddE t 0 rr = ae at *
  generalize ruAddT t 0 rr = t3 at *
  have D3 : ∀ (v : Value) (u : World) (H : TabC u w.heap.size p v t3), _ := fun v u H => delC_n t3 w.heap.size p v u H G3 0
  have G4 : (ruDelT t3 0).Good := G3.del
  generalize ruDelE t3 0 = de at *
  generalize ruDelT t3 0 = t4 at *
  have L4 : ∀ (v : Value) (u : World) (H : TabC u w.heap.size p v t4), _ := fun v u H => listL_ t4 w.heap.size p v u H G4
  have few := G4.few
  obtain ⟨m, hm⟩ : ∃ m, t4.rs.length = m := ⟨_, rfl⟩
  rw [hm] at L4 few
  have D4 : ∀ (v : Value) (u : World) (H : TabC u w.heap.size p v t4), _ := fun v u H => delC_n t4 w.heap.size p v u H G4 ((m : Int) - 1)
  generalize ruDelE t4 ((m : Int) - 1) = df at *
  generalize ruDelT t4 ((m : Int) - 1) = t5 at *
  have e40 : wrap64 ((m : Int) - 1) = (m : Int) - 1 := IntWalk.wrap64_in _ (by omega)
  clear G3 G4 hm
  obtain ⟨_, x1_0, x1_1, x1_2, x1_3, x1_4, x1_5, x1_6, x1_7, x1_8, x1_9, x1_10, x1_11, x1_12, x1_13, x1_14, x1_15, x1_16, x1_17, x1_18⟩ := id X
  go_wp2_with fail
  refine (cp _ T).mono ?_; rintro e w90 ⟨p2, v90, rfl, N0, x90⟩
  have apN := Apart.of T.lt N0.ge
  have apM := Apart.of U.lt N0.ge
  have N1 := N0.less B.size
  have nfN : ¬ footC p2 v90 wr.heap.size := fun h => by have := N0.ge _ h; have := X.1; omega
  clear N0 cp
  have T_501 := T.on x90
  clear T
  have U_502 := U.on x90
  clear U
  have X_503 := X.on x90
  have B504 := B.trans (x90.mono B.size)
  clear x1_0 x1_1 x1_2 x1_3 x1_4 x1_5 x1_6 x1_7 x1_8 x1_9 x1_10 x1_11 x1_12 x1_13 x1_14 x1_15 x1_16 x1_17 x1_18 X B x90
  obtain ⟨_, x2_0, x2_1, x2_2, x2_3, x2_4, x2_5, x2_6, x2_7, x2_8, x2_9, x2_10, x2_11, x2_12, x2_13, x2_14, x2_15, x2_16, x2_17, x2_18⟩ := id X_503
  go_wp2_with fail
  refine (ru _).mono ?_; rintro e w91 ⟨rfl, x91⟩
  have T_505 := T_501.on x91
  clear T_501
  have U_506 := U_502.on x91
  clear U_502
  have N_507 := N1.on x91
  clear N1
  have X_508 := X_503.on x91
  have B509 := B504.trans (x91.mono B504.size)
  clear x2_0 x2_1 x2_2 x2_3 x2_4 x2_5 x2_6 x2_7 x2_8 x2_9 x2_10 x2_11 x2_12 x2_13 x2_14 x2_15 x2_16 x2_17 x2_18 X_503 B504 x91
  obtain ⟨_, x3_0, x3_1, x3_2, x3_3, x3_4, x3_5, x3_6, x3_7, x3_8, x3_9, x3_10, x3_11, x3_12, x3_13, x3_14, x3_15, x3_16, x3_17, x3_18⟩ := id X_508
  go_wp2_with fail
  refine (AC _ _ T_505).mono ?_; rintro e w92 ⟨rfl, v92, T_510, x92, ho92⟩
  clear x3_0 x3_1 x3_2 x3_3 x3_4 x3_5 x3_6 x3_7 x3_8 x3_9 x3_10 x3_11 x3_12 x3_13 x3_14 x3_15 x3_16 x3_17 x3_18
  have X_511 := X_508.keep x92.size (x92.block _ X_508.1 nfT)
  have nfXT_512 := foot_newer nfT X_508.1 ho92
  have apTU_513 := Apart.kept ap U_506.lt ho92
  have U_514 := U_506.beside x92 (Apart.symm ap)
  have apTN_515 := Apart.kept apN N_507.lt ho92
  have N_516 := N_507.beside x92 (Apart.symm apN)
  have B517 := T_505.after (Nat.le_refl _) B509 x92
  clear nfT X_508 B509 T_505 x92 ho92 ap apN U_506 N_507
  clear AC
  obtain ⟨_, x4_0, x4_1, x4_2, x4_3, x4_4, x4_5, x4_6, x4_7, x4_8, x4_9, x4_10, x4_11, x4_12, x4_13, x4_14, x4_15, x4_16, x4_17, x4_18⟩ := id X_511
  go_wp2_with fail
  refine (D3 _ _ T_510).mono ?_; rintro e w93 ⟨rfl, v93, T_518, x93, ho93⟩
  clear x4_0 x4_1 x4_2 x4_3 x4_4 x4_5 x4_6 x4_7 x4_8 x4_9 x4_10 x4_11 x4_12 x4_13 x4_14 x4_15 x4_16 x4_17 x4_18
  have X_519 := X_511.keep x93.size (x93.block _ X_511.1 nfXT_512)
  have nfXT_520 := foot_newer nfXT_512 X_511.1 ho93
  have apTU_521 := Apart.kept apTU_513 U_514.lt ho93
  have U_522 := U_514.beside x93 (Apart.symm apTU_513)
  have apTN_523 := Apart.kept apTN_515 N_516.lt ho93
  have N_524 := N_516.beside x93 (Apart.symm apTN_515)
  have B525 := T_510.after (Nat.le_refl _) B517 x93
  clear nfXT_512 X_511 B517 T_510 x93 ho93 apTU_513 apTN_515 U_514 N_516
  clear D3
  obtain ⟨_, x5_0, x5_1, x5_2, x5_3, x5_4, x5_5, x5_6, x5_7, x5_8, x5_9, x5_10, x5_11, x5_12, x5_13, x5_14, x5_15, x5_16, x5_17, x5_18⟩ := id X_519
  go_wp2_with fail
  refine (L4 _ _ T_518).mono ?_; rintro e w95 ⟨a95, c95, rfl, _, x95⟩
  have T_526 := T_518.on x95
  clear T_518
  have U_527 := U_522.on x95
  clear U_522
  have N_528 := N_524.on x95
  clear N_524
  have X_529 := X_519.on x95
  have B530 := B525.trans (x95.mono B525.size)
  clear x5_0 x5_1 x5_2 x5_3 x5_4 x5_5 x5_6 x5_7 x5_8 x5_9 x5_10 x5_11 x5_12 x5_13 x5_14 x5_15 x5_16 x5_17 x5_18 X_519 B525 x95
  obtain ⟨_, x6_0, x6_1, x6_2, x6_3, x6_4, x6_5, x6_6, x6_7, x6_8, x6_9, x6_10, x6_11, x6_12, x6_13, x6_14, x6_15, x6_16, x6_17, x6_18⟩ := id X_529
  go_wp2_with fail
  refine (D4 _ _ T_526).mono ?_; rintro e w96 ⟨rfl, v96, T_531, x96, ho96⟩
  clear x6_0 x6_1 x6_2 x6_3 x6_4 x6_5 x6_6 x6_7 x6_8 x6_9 x6_10 x6_11 x6_12 x6_13 x6_14 x6_15 x6_16 x6_17 x6_18
  have X_532 := X_529.keep x96.size (x96.block _ X_529.1 nfXT_520)
  have nfXT_533 := foot_newer nfXT_520 X_529.1 ho96
  have apTU_534 := Apart.kept apTU_521 U_527.lt ho96
  have U_535 := U_527.beside x96 (Apart.symm apTU_521)
  have apTN_536 := Apart.kept apTN_523 N_528.lt ho96
  have N_537 := N_528.beside x96 (Apart.symm apTN_523)
  have B538 := T_526.after (Nat.le_refl _) B530 x96
  clear nfXT_520 X_529 B530 T_526 x96 ho96 apTU_521 apTN_523 U_527 N_528
  obtain ⟨_, x7_0, x7_1, x7_2, x7_3, x7_4, x7_5, x7_6, x7_7, x7_8, x7_9, x7_10, x7_11, x7_12, x7_13, x7_14, x7_15, x7_16, x7_17, x7_18⟩ := id X_532
  go_wp2
  exact ⟨rfl, _, _, _, _, rfl, B538, N_537, U_535, (Apart.symm apM), G, X_532⟩
set_option maxHeartbeats 8000000 in
set_option maxRecDepth 100000 in
theorem arm4 {c : Code} (hc : (Try.f3.body.bind (blockIn 2)) = some c) {x0 x1 x2 x4 x6 x7 x10 x11 x12 x13 x14 x15 x16 x17 x18 x19 x20 x21 x22 x23 x24 x25 x26 x27 x28 x29 x30 x31 x32 x33 x34 x35 x36 x37 x38 x39 x40 x41 x42 x44 x45 x46 x47 x48 x49 x50 x51 x52 x53 x54 x55 x56 x57 x58 x59 x60 x61 x62 x63 x64 x65 x66 x67 x68 x69 x70 x71 x72 x73 x74 x75 x76 x77 x78 x79 x80 x81 x82 x83 x84 x85 x86 x87 x88 x89 x90 x91 x92 x93 x94 x95 x96 x97 x98 x99 x100 x101 x102 x103 x104 x105 x106 x107 x108 x109 x110 x111 x112 x113 x114 x115 x116 x117 x118 x119 x120 x121 x122 x123 x124 x125 x126 x127 x128 x129 x130 x131 x132 x133 x134 x135 x136 x137 x138 x139 : Value} {Q_ : Exit → Act → World → Prop} (x : Ac) (OK : Hid x.Ok) (t : Tm) (G : t.Good) (p q : Nat) (v v' : Value) (kk : Int) (k5 : kk ≠ 2 ∧ kk ≠ 3 ∧ kk ≠ 4) (w wr u11 : World) (B : Below w.heap.size w u11) (T : TabC u11 w.heap.size p v t) (U : TabD u11 w.heap.size q v' t) (ap : Apart p v q v') (X : Box19 u11 wr.heap.size (.int .u8 x.kd) (.int .i64 x.at_) (.int .u8 x.d.d0) (.int .u8 x.d.d1) (.int .u8 x.d.d2) (.int .u8 x.d.d3) (.int .u8 x.d.d4) (.int .u8 x.d.d5) (.int .i64 x.r.k) (.int .u8 x.r.pr) (.int .u32 (x.r.si : Int)) (.int .i64 x.r.sb) (.int .u32 (x.r.di : Int)) (.int .i64 x.r.db) (.int .u32 (x.r.ex : Int)) (.int .u16 x.r.fr) (.int .u16 x.r.to) (.int .u32 (x.r.ii : Int)) (.int .u16 x.r.ip)) (nfT : ¬ footC p v wr.heap.size) (nfU : ¬ footC q v' wr.heap.size)
    (hP : ∀ c (a : Act) d v w, Q_ (.panic c) (a.put d v) w → Q_ (.panic c) a w) (hQ : ∀ (y2 y3 y9 y10 y44 y45 y46 y47 y48 y49 y50 y51 y52 y53 y54 y55 y56 y57 y58 y59 y60 y61 y62 y63 y64 y65 y66 y67 y68 y69 y70 y71 y72 y73 y74 y75 y76 y77 y78 y79 y80 y81 y82 y83 y84 y85 y86 y87 y88 y89 y90 y91 y92 y93 y94 y95 y96 y97 y98 y99 y100 y101 y102 y103 y104 y105 y106 y107 y108 y109 y110 y111 y112 y113 y114 y115 y116 y117 y118 y119 y120 y121 y122 y123 y124 y125 y126 y127 y128 : Value) (wx : World), PlayR x q w wr wx y3 y9 → Q_ .normal ⟨#[x0, x1, y2, y3, x4, .pointer (some ⟨q, 0, none⟩), x6, x7, .pointer (some ⟨wr.heap.size, 0, none⟩), y9, y10, x11, x12, x13, x14, x15, x16, x17, x18, x19, x20, x21, x22, x23, x24, x25, x26, x27, x28, x29, x30, x31, x32, x33, x34, x35, x36, x37, x38, x39, x40, x41, x42, .int .u8 kk, y44, y45, y46, y47, y48, y49, y50, y51, y52, y53, y54, y55, y56, y57, y58, y59, y60, y61, y62, y63, y64, y65, y66, y67, y68, y69, y70, y71, y72, y73, y74, y75, y76, y77, y78, y79, y80, y81, y82, y83, y84, y85, y86, y87, y88, y89, y90, y91, y92, y93, y94, y95, y96, y97, y98, y99, y100, y101, y102, y103, y104, y105, y106, y107, y108, y109, y110, y111, y112, y113, y114, y115, y116, y117, y118, y119, y120, y121, y122, y123, y124, y125, y126, y127, y128, x129, x130, x131, x132, x133, x134, x135, x136, x137, x138, x139], []⟩ wx) :
    Code.wp Try.prog c Q_ ⟨#[x0, x1, x2, .pointer (some ⟨p, 0, none⟩), x4, .pointer (some ⟨q, 0, none⟩), x6, x7, .pointer (some ⟨wr.heap.size, 0, none⟩), .bool true, x10, x11, x12, x13, x14, x15, x16, x17, x18, x19, x20, x21, x22, x23, x24, x25, x26, x27, x28, x29, x30, x31, x32, x33, x34, x35, x36, x37, x38, x39, x40, x41, x42, .int .u8 kk, x44, x45, x46, x47, x48, x49, x50, x51, x52, x53, x54, x55, x56, x57, x58, x59, x60, x61, x62, x63, x64, x65, x66, x67, x68, x69, x70, x71, x72, x73, x74, x75, x76, x77, x78, x79, x80, x81, x82, x83, x84, x85, x86, x87, x88, x89, x90, x91, x92, x93, x94, x95, x96, x97, x98, x99, x100, x101, x102, x103, x104, x105, x106, x107, x108, x109, x110, x111, x112, x113, x114, x115, x116, x117, x118, x119, x120, x121, x122, x123, x124, x125, x126, x127, x128, x129, x130, x131, x132, x133, x134, x135, x136, x137, x138, x139], []⟩ u11 := by
  conv at hc => lhs; whnf
  injection hc with hc
  subst hc
  obtain ⟨k52, k53, k54⟩ := k5
  have k2_ : (kk == 2) = false := by simpa using k52
  have k3_ : (kk == 3) = false := by simpa using k53
  have k4_ : (kk == 4) = false := by simpa using k54
  clear k52 k53 k54
  have KC : ∀ (u : World) (H : TabC u w.heap.size p v t), _ := fun u H => checC_ t w.heap.size p v u H G (ruleD x.d) (ruleD_ok _ OK.out.d)
  have KD : ∀ (u : World) (H : TabD u w.heap.size q v' t), _ := fun u H => checD_ t w.heap.size q v' u H G (ruleD x.d) (ruleD_ok _ OK.out.d)
  have AC : ∀ (u : World) (H : TabC u w.heap.size p v t), _ := fun u H => addC_n t w.heap.size p v u H G x.at_ (ruleD x.d) (ruleD_ok _ OK.out.d) OK.out.at_.1 OK.out.at_.2
  have AD : ∀ (u : World) (H : TabD u w.heap.size q v' t), _ := fun u H => addD_n t w.heap.size q v' u H G x.at_ (ruleD x.d) (ruleD_ok _ OK.out.d) OK.out.at_.1 OK.out.at_.2
  have G2 : (ruAddT t x.at_ (ruleD x.d)).Good := G.add (ruleD_ok _ OK.out.d)
  generalize ruCheckE t (ruleD x.d) = ck at *
  generalize ruAddE t x.at_ (ruleD x.d) = ae at *
  generalize ruAddT t x.at_ (ruleD x.d) = t2 at *
  have ru := fun u => rule_ x.d u OK.out.d
  generalize ruleD x.d = rr at *
  clear G
  obtain ⟨_, x1_0, x1_1, x1_2, x1_3, x1_4, x1_5, x1_6, x1_7, x1_8, x1_9, x1_10, x1_11, x1_12, x1_13, x1_14, x1_15, x1_16, x1_17, x1_18⟩ := id X
  go_upto_region 13 with fail
  clear x1_0 x1_1 x1_2 x1_3 x1_4 x1_5 x1_6 x1_7 x1_8 x1_9 x1_10 x1_11 x1_12 x1_13 x1_14 x1_15 x1_16 x1_17 x1_18
  refine wp_region_held_drew (S := (fun w' => w'.cell? ⟨wr.heap.size, 0, none⟩ = some (.int .u8 x.kd) ∧ w'.cell? ⟨wr.heap.size, 1, none⟩ = some (.int .i64 x.at_) ∧ w'.cell? ⟨wr.heap.size, 2, none⟩ = some (.int .u8 x.d.d0) ∧ w'.cell? ⟨wr.heap.size, 3, none⟩ = some (.int .u8 x.d.d1) ∧ w'.cell? ⟨wr.heap.size, 4, none⟩ = some (.int .u8 x.d.d2) ∧ w'.cell? ⟨wr.heap.size, 5, none⟩ = some (.int .u8 x.d.d3) ∧ w'.cell? ⟨wr.heap.size, 6, none⟩ = some (.int .u8 x.d.d4) ∧ w'.cell? ⟨wr.heap.size, 7, none⟩ = some (.int .u8 x.d.d5) ∧ w'.cell? ⟨wr.heap.size, 8, none⟩ = some (.int .i64 x.r.k) ∧ w'.cell? ⟨wr.heap.size, 9, none⟩ = some (.int .u8 x.r.pr) ∧ w'.cell? ⟨wr.heap.size, 10, none⟩ = some (.int .u32 (x.r.si : Int)) ∧ w'.cell? ⟨wr.heap.size, 11, none⟩ = some (.int .i64 x.r.sb) ∧ w'.cell? ⟨wr.heap.size, 12, none⟩ = some (.int .u32 (x.r.di : Int)) ∧ w'.cell? ⟨wr.heap.size, 13, none⟩ = some (.int .i64 x.r.db) ∧ w'.cell? ⟨wr.heap.size, 14, none⟩ = some (.int .u32 (x.r.ex : Int)) ∧ w'.cell? ⟨wr.heap.size, 15, none⟩ = some (.int .u16 x.r.fr) ∧ w'.cell? ⟨wr.heap.size, 16, none⟩ = some (.int .u16 x.r.to) ∧ w'.cell? ⟨wr.heap.size, 17, none⟩ = some (.int .u32 (x.r.ii : Int)) ∧ w'.cell? ⟨wr.heap.size, 18, none⟩ = some (.int .u16 x.r.ip))) (by kernel_rfl) ?_ (fun hHeld => ?_)
  · exact ⟨X.2.1, X.2.2.1, X.2.2.2.1, X.2.2.2.2.1, X.2.2.2.2.2.1, X.2.2.2.2.2.2.1, X.2.2.2.2.2.2.2.1, X.2.2.2.2.2.2.2.2.1, X.2.2.2.2.2.2.2.2.2.1, X.2.2.2.2.2.2.2.2.2.2.1, X.2.2.2.2.2.2.2.2.2.2.2.1, X.2.2.2.2.2.2.2.2.2.2.2.2.1, X.2.2.2.2.2.2.2.2.2.2.2.2.2.1, X.2.2.2.2.2.2.2.2.2.2.2.2.2.2.1, X.2.2.2.2.2.2.2.2.2.2.2.2.2.2.2.1, X.2.2.2.2.2.2.2.2.2.2.2.2.2.2.2.2.1, X.2.2.2.2.2.2.2.2.2.2.2.2.2.2.2.2.2.1, X.2.2.2.2.2.2.2.2.2.2.2.2.2.2.2.2.2.2.1, X.2.2.2.2.2.2.2.2.2.2.2.2.2.2.2.2.2.2.2⟩
  have X_601 := X.on ((Below.refl _ _).drew)
  have B602 := B.drew
  clear X B
  have T_603 := T.drew
  clear T
  have U_604 := U.drew
  clear U
  obtain ⟨u81, hu81⟩ : ∃ x_ : World, x_ = u11.drew := ⟨_, rfl⟩
  rw [← hu81] at X_601 T_603 U_604 B602 hHeld ⊢
  clear hu81
  refine wpAnyH_take (i := 0) (oi := _) (v := ?_) rfl (by kernel_rfl) (by kernel_rfl) (by kernel_rfl) (fun _ _ _ h => hP _ _ _ _ _ h) (Or.inl ⟨by kernel_rfl, ?_⟩) (by assumption) ?_
  rotate_left
  · intro w hSw
    clear hSw
    go_simp
    with_reducible rfl
  try simp only [Act.put, List.setIfInBounds_toArray, List.set_cons_zero, List.set_cons_succ]
  refine wpAnyH_take (i := 1) (oi := _) (v := ?_) rfl (by kernel_rfl) (by kernel_rfl) (by kernel_rfl) (fun _ _ _ h => hP _ _ _ _ _ h) (Or.inl ⟨by kernel_rfl, ?_⟩) (by assumption) ?_
  rotate_left
  · intro w hSw
    clear hSw
    go_simp
    with_reducible rfl
  try simp only [Act.put, List.setIfInBounds_toArray, List.set_cons_zero, List.set_cons_succ]
  refine wpAnyH_take (i := 2) (oi := _) (v := ?_) rfl (by kernel_rfl) (by kernel_rfl) (by kernel_rfl) (fun _ _ _ h => hP _ _ _ _ _ h) (Or.inl ⟨by kernel_rfl, ?_⟩) (by assumption) ?_
  rotate_left
  · intro w hSw
    (try dsimp only at hSw)
    obtain ⟨hq0, hq1, hq2, hq3, hq4, hq5, hq6, hq7, hq8, hq9, hq10, hq11, hq12, hq13, hq14, hq15, hq16, hq17, hq18⟩ := hSw
    go_simp
    with_reducible rfl
  try simp only [Act.put, List.setIfInBounds_toArray, List.set_cons_zero, List.set_cons_succ]
  refine wpAnyH_take (i := 5) (oi := _) (v := ?_) rfl (by kernel_rfl) (by kernel_rfl) (by kernel_rfl) (fun _ _ _ h => hP _ _ _ _ _ h) (Or.inl ⟨by kernel_rfl, ?_⟩) (by assumption) ?_
  rotate_left
  · intro w hSw
    clear hSw
    go_simp
    with_reducible rfl
  try simp only [Act.put, List.setIfInBounds_toArray, List.set_cons_zero, List.set_cons_succ]
  refine wpAnyH_take (i := 6) (oi := _) (v := ?_) rfl (by kernel_rfl) (by kernel_rfl) (by kernel_rfl) (fun _ _ _ h => hP _ _ _ _ _ h) (Or.inl ⟨by kernel_rfl, ?_⟩) (by assumption) ?_
  rotate_left
  · intro w hSw
    clear hSw
    go_simp
    with_reducible rfl
  try simp only [Act.put, List.setIfInBounds_toArray, List.set_cons_zero, List.set_cons_succ]
  refine wpAnyH_take (i := 7) (oi := _) (v := ?_) rfl (by kernel_rfl) (by kernel_rfl) (by kernel_rfl) (fun _ _ _ h => hP _ _ _ _ _ h) (Or.inl ⟨by kernel_rfl, ?_⟩) (by assumption) ?_
  rotate_left
  · intro w hSw
    (try dsimp only at hSw)
    obtain ⟨hq0, hq1, hq2, hq3, hq4, hq5, hq6, hq7, hq8, hq9, hq10, hq11, hq12, hq13, hq14, hq15, hq16, hq17, hq18⟩ := hSw
    go_simp
    with_reducible rfl
  try simp only [Act.put, List.setIfInBounds_toArray, List.set_cons_zero, List.set_cons_succ]
  refine wpAnyH_ready (rs := [3]) (by kernel_rfl) (by simp) ?_
  refine AllReadyH.cons (o := _) rfl (fun K hK => ?_) AllReadyH.nil
  go_simp
  refine (ru _).mono ?_; rintro e w82 ⟨rfl, x82⟩
  have T_605 := T_603.on x82
  clear T_603
  have U_606 := U_604.on x82
  clear U_604
  have X_607 := X_601.on x82
  have B608 := B602.trans (x82.mono B602.size)
  clear X_601 B602 x82
  show K _ _
  refine hK.out _ _ ⟨X_607.2.1, X_607.2.2.1, X_607.2.2.2.1, X_607.2.2.2.2.1, X_607.2.2.2.2.2.1, X_607.2.2.2.2.2.2.1, X_607.2.2.2.2.2.2.2.1, X_607.2.2.2.2.2.2.2.2.1, X_607.2.2.2.2.2.2.2.2.2.1, X_607.2.2.2.2.2.2.2.2.2.2.1, X_607.2.2.2.2.2.2.2.2.2.2.2.1, X_607.2.2.2.2.2.2.2.2.2.2.2.2.1, X_607.2.2.2.2.2.2.2.2.2.2.2.2.2.1, X_607.2.2.2.2.2.2.2.2.2.2.2.2.2.2.1, X_607.2.2.2.2.2.2.2.2.2.2.2.2.2.2.2.1, X_607.2.2.2.2.2.2.2.2.2.2.2.2.2.2.2.2.1, X_607.2.2.2.2.2.2.2.2.2.2.2.2.2.2.2.2.2.1, X_607.2.2.2.2.2.2.2.2.2.2.2.2.2.2.2.2.2.2.1, X_607.2.2.2.2.2.2.2.2.2.2.2.2.2.2.2.2.2.2.2⟩ (fun hH1 => ?_)
  clear hK K hHeld
  have hHeld := hH1
  clear hH1
  try simp only [Act.put, List.setIfInBounds_toArray, List.set_cons_zero, List.set_cons_succ]
  refine wpAnyH_ready (rs := [4]) (by kernel_rfl) (by simp) ?_
  refine AllReadyH.cons (o := _) rfl (fun K hK => ?_) AllReadyH.nil
  go_simp
  refine (KC _ T_605).mono ?_; rintro e w83 ⟨rfl, x83⟩
  have T_609 := T_605.on x83
  clear T_605
  have U_610 := U_606.on x83
  clear U_606
  have X_611 := X_607.on x83
  have B612 := B608.trans (x83.mono B608.size)
  clear X_607 B608 x83
  show K _ _
  refine hK.out _ _ ⟨X_611.2.1, X_611.2.2.1, X_611.2.2.2.1, X_611.2.2.2.2.1, X_611.2.2.2.2.2.1, X_611.2.2.2.2.2.2.1, X_611.2.2.2.2.2.2.2.1, X_611.2.2.2.2.2.2.2.2.1, X_611.2.2.2.2.2.2.2.2.2.1, X_611.2.2.2.2.2.2.2.2.2.2.1, X_611.2.2.2.2.2.2.2.2.2.2.2.1, X_611.2.2.2.2.2.2.2.2.2.2.2.2.1, X_611.2.2.2.2.2.2.2.2.2.2.2.2.2.1, X_611.2.2.2.2.2.2.2.2.2.2.2.2.2.2.1, X_611.2.2.2.2.2.2.2.2.2.2.2.2.2.2.2.1, X_611.2.2.2.2.2.2.2.2.2.2.2.2.2.2.2.2.1, X_611.2.2.2.2.2.2.2.2.2.2.2.2.2.2.2.2.2.1, X_611.2.2.2.2.2.2.2.2.2.2.2.2.2.2.2.2.2.2.1, X_611.2.2.2.2.2.2.2.2.2.2.2.2.2.2.2.2.2.2.2⟩ (fun hH2 => ?_)
  clear hK K hHeld
  have hHeld := hH2
  clear hH2
  try simp only [Act.put, List.setIfInBounds_toArray, List.set_cons_zero, List.set_cons_succ]
  refine wpAnyH_ready (rs := [8]) (by kernel_rfl) (by simp) ?_
  refine AllReadyH.cons (o := _) rfl (fun K hK => ?_) AllReadyH.nil
  go_simp
  refine (ru _).mono ?_; rintro e w84 ⟨rfl, x84⟩
  have T_613 := T_609.on x84
  clear T_609
  have U_614 := U_610.on x84
  clear U_610
  have X_615 := X_611.on x84
  have B616 := B612.trans (x84.mono B612.size)
  clear X_611 B612 x84
  show K _ _
  refine hK.out _ _ ⟨X_615.2.1, X_615.2.2.1, X_615.2.2.2.1, X_615.2.2.2.2.1, X_615.2.2.2.2.2.1, X_615.2.2.2.2.2.2.1, X_615.2.2.2.2.2.2.2.1, X_615.2.2.2.2.2.2.2.2.1, X_615.2.2.2.2.2.2.2.2.2.1, X_615.2.2.2.2.2.2.2.2.2.2.1, X_615.2.2.2.2.2.2.2.2.2.2.2.1, X_615.2.2.2.2.2.2.2.2.2.2.2.2.1, X_615.2.2.2.2.2.2.2.2.2.2.2.2.2.1, X_615.2.2.2.2.2.2.2.2.2.2.2.2.2.2.1, X_615.2.2.2.2.2.2.2.2.2.2.2.2.2.2.2.1, X_615.2.2.2.2.2.2.2.2.2.2.2.2.2.2.2.2.1, X_615.2.2.2.2.2.2.2.2.2.2.2.2.2.2.2.2.2.1, X_615.2.2.2.2.2.2.2.2.2.2.2.2.2.2.2.2.2.2.1, X_615.2.2.2.2.2.2.2.2.2.2.2.2.2.2.2.2.2.2.2⟩ (fun hH3 => ?_)
  clear hK K hHeld
  have hHeld := hH3
  clear hH3
  try simp only [Act.put, List.setIfInBounds_toArray, List.set_cons_zero, List.set_cons_succ]
  refine wpAnyH_ready (rs := [9]) (by kernel_rfl) (by simp) ?_
  refine AllReadyH.cons (o := _) rfl (fun K hK => ?_) AllReadyH.nil
  go_simp
  refine (KD _ U_614).mono ?_; rintro e w85 ⟨rfl, x85⟩
  have T_617 := T_613.on x85
  clear T_613
  have U_618 := U_614.on x85
  clear U_614
  have X_619 := X_615.on x85
  have B620 := B616.trans (x85.mono B616.size)
  clear X_615 B616 x85
  show K _ _
  refine hK.out _ _ ⟨X_619.2.1, X_619.2.2.1, X_619.2.2.2.1, X_619.2.2.2.2.1, X_619.2.2.2.2.2.1, X_619.2.2.2.2.2.2.1, X_619.2.2.2.2.2.2.2.1, X_619.2.2.2.2.2.2.2.2.1, X_619.2.2.2.2.2.2.2.2.2.1, X_619.2.2.2.2.2.2.2.2.2.2.1, X_619.2.2.2.2.2.2.2.2.2.2.2.1, X_619.2.2.2.2.2.2.2.2.2.2.2.2.1, X_619.2.2.2.2.2.2.2.2.2.2.2.2.2.1, X_619.2.2.2.2.2.2.2.2.2.2.2.2.2.2.1, X_619.2.2.2.2.2.2.2.2.2.2.2.2.2.2.2.1, X_619.2.2.2.2.2.2.2.2.2.2.2.2.2.2.2.2.1, X_619.2.2.2.2.2.2.2.2.2.2.2.2.2.2.2.2.2.1, X_619.2.2.2.2.2.2.2.2.2.2.2.2.2.2.2.2.2.2.1, X_619.2.2.2.2.2.2.2.2.2.2.2.2.2.2.2.2.2.2.2⟩ (fun hH4 => ?_)
  clear hK K hHeld
  have hHeld := hH4
  clear hH4
  try simp only [Act.put, List.setIfInBounds_toArray, List.set_cons_zero, List.set_cons_succ]
  refine wpAnyH_take (i := 10) (oi := _) (v := ?_) rfl (by kernel_rfl) (by kernel_rfl) (by kernel_rfl) (fun _ _ _ h => hP _ _ _ _ _ h) (Or.inl ⟨by kernel_rfl, ?_⟩) (by assumption) ?_
  rotate_left
  · intro w hSw
    clear hSw
    go_simp
    with_reducible rfl
  try simp only [Act.put, List.setIfInBounds_toArray, List.set_cons_zero, List.set_cons_succ]
  refine wpAnyH_take (i := 11) (oi := _) (v := ?_) rfl (by kernel_rfl) (by kernel_rfl) (by kernel_rfl) (fun _ _ _ h => hP _ _ _ _ _ h) (Or.inl ⟨by kernel_rfl, ?_⟩) (by assumption) ?_
  rotate_left
  · intro w hSw
    clear hSw
    go_simp
    with_reducible rfl
  try simp only [Act.put, List.setIfInBounds_toArray, List.set_cons_zero, List.set_cons_succ]
  refine wpAnyH_take (i := 12) (oi := _) (v := ?_) rfl (by kernel_rfl) (by kernel_rfl) (by kernel_rfl) (fun _ _ _ h => hP _ _ _ _ _ h) (Or.inl ⟨by kernel_rfl, ?_⟩) (by assumption) ?_
  rotate_left
  · intro w hSw
    clear hSw
    go_simp
    with_reducible rfl
  try simp only [Act.put, List.setIfInBounds_toArray, List.set_cons_zero, List.set_cons_succ]
  refine wpAnyH_take (i := 13) (oi := _) (v := ?_) rfl (by kernel_rfl) (by kernel_rfl) (by kernel_rfl) (fun _ _ _ h => hP _ _ _ _ _ h) (Or.inl ⟨by kernel_rfl, ?_⟩) (by assumption) ?_
  rotate_left
  · intro w hSw
    clear hSw
    go_simp
    with_reducible rfl
  try simp only [Act.put, List.setIfInBounds_toArray, List.set_cons_zero, List.set_cons_succ]
  refine wpAnyH_take (i := 14) (oi := _) (v := ?_) rfl (by kernel_rfl) (by kernel_rfl) (by kernel_rfl) (fun _ _ _ h => hP _ _ _ _ _ h) (Or.inl ⟨by kernel_rfl, ?_⟩) (by assumption) ?_
  rotate_left
  · intro w hSw
    (try dsimp only at hSw)
    obtain ⟨hq0, hq1, hq2, hq3, hq4, hq5, hq6, hq7, hq8, hq9, hq10, hq11, hq12, hq13, hq14, hq15, hq16, hq17, hq18⟩ := hSw
    go_simp
    with_reducible rfl
  try simp only [Act.put, List.setIfInBounds_toArray, List.set_cons_zero, List.set_cons_succ]
  refine wpAnyH_take (i := 15) (oi := _) (v := ?_) rfl (by kernel_rfl) (by kernel_rfl) (by kernel_rfl) (fun _ _ _ h => hP _ _ _ _ _ h) (Or.inl ⟨by kernel_rfl, ?_⟩) (by assumption) ?_
  rotate_left
  · intro w hSw
    clear hSw
    go_simp
    with_reducible rfl
  try simp only [Act.put, List.setIfInBounds_toArray, List.set_cons_zero, List.set_cons_succ]
  refine wpAnyH_take (i := 16) (oi := _) (v := ?_) rfl (by kernel_rfl) (by kernel_rfl) (by kernel_rfl) (fun _ _ _ h => hP _ _ _ _ _ h) (Or.inl ⟨by kernel_rfl, ?_⟩) (by assumption) ?_
  rotate_left
  · intro w hSw
    (try dsimp only at hSw)
    obtain ⟨hq0, hq1, hq2, hq3, hq4, hq5, hq6, hq7, hq8, hq9, hq10, hq11, hq12, hq13, hq14, hq15, hq16, hq17, hq18⟩ := hSw
    go_simp
    with_reducible rfl
  try simp only [Act.put, List.setIfInBounds_toArray, List.set_cons_zero, List.set_cons_succ]
  refine wpAnyH_take (i := 19) (oi := _) (v := ?_) rfl (by kernel_rfl) (by kernel_rfl) (by kernel_rfl) (fun _ _ _ h => hP _ _ _ _ _ h) (Or.inl ⟨by kernel_rfl, ?_⟩) (by assumption) ?_
  rotate_left
  · intro w hSw
    clear hSw
    go_simp
    with_reducible rfl
  try simp only [Act.put, List.setIfInBounds_toArray, List.set_cons_zero, List.set_cons_succ]
  refine wpAnyH_take (i := 20) (oi := _) (v := ?_) rfl (by kernel_rfl) (by kernel_rfl) (by kernel_rfl) (fun _ _ _ h => hP _ _ _ _ _ h) (Or.inl ⟨by kernel_rfl, ?_⟩) (by assumption) ?_
  rotate_left
  · intro w hSw
    clear hSw
    go_simp
    with_reducible rfl
  try simp only [Act.put, List.setIfInBounds_toArray, List.set_cons_zero, List.set_cons_succ]
  refine wpAnyH_take (i := 21) (oi := _) (v := ?_) rfl (by kernel_rfl) (by kernel_rfl) (by kernel_rfl) (fun _ _ _ h => hP _ _ _ _ _ h) (Or.inl ⟨by kernel_rfl, ?_⟩) (by assumption) ?_
  rotate_left
  · intro w hSw
    (try dsimp only at hSw)
    obtain ⟨hq0, hq1, hq2, hq3, hq4, hq5, hq6, hq7, hq8, hq9, hq10, hq11, hq12, hq13, hq14, hq15, hq16, hq17, hq18⟩ := hSw
    go_simp
    with_reducible rfl
  try simp only [Act.put, List.setIfInBounds_toArray, List.set_cons_zero, List.set_cons_succ]
  refine wpAnyH_take (i := 22) (oi := _) (v := ?_) rfl (by kernel_rfl) (by kernel_rfl) (by kernel_rfl) (fun _ _ _ h => hP _ _ _ _ _ h) (Or.inl ⟨by kernel_rfl, ?_⟩) (by assumption) ?_
  rotate_left
  · intro w hSw
    clear hSw
    go_simp
    with_reducible rfl
  try simp only [Act.put, List.setIfInBounds_toArray, List.set_cons_zero, List.set_cons_succ]
  refine wpAnyH_take (i := 23) (oi := _) (v := ?_) rfl (by kernel_rfl) (by kernel_rfl) (by kernel_rfl) (fun _ _ _ h => hP _ _ _ _ _ h) (Or.inl ⟨by kernel_rfl, ?_⟩) (by assumption) ?_
  rotate_left
  · intro w hSw
    (try dsimp only at hSw)
    obtain ⟨hq0, hq1, hq2, hq3, hq4, hq5, hq6, hq7, hq8, hq9, hq10, hq11, hq12, hq13, hq14, hq15, hq16, hq17, hq18⟩ := hSw
    go_simp
    with_reducible rfl
  try simp only [Act.put, List.setIfInBounds_toArray, List.set_cons_zero, List.set_cons_succ]
  refine wpAnyH_ready (rs := [17]) (by kernel_rfl) (by simp) ?_
  refine AllReadyH.cons (o := _) rfl (fun K hK => ?_) AllReadyH.nil
  go_simp
  refine (ru _).mono ?_; rintro e w86 ⟨rfl, x86⟩
  have T_621 := T_617.on x86
  clear T_617
  have U_622 := U_618.on x86
  clear U_618
  have X_623 := X_619.on x86
  have B624 := B620.trans (x86.mono B620.size)
  clear X_619 B620 x86
  show K _ _
  refine hK.out _ _ ⟨X_623.2.1, X_623.2.2.1, X_623.2.2.2.1, X_623.2.2.2.2.1, X_623.2.2.2.2.2.1, X_623.2.2.2.2.2.2.1, X_623.2.2.2.2.2.2.2.1, X_623.2.2.2.2.2.2.2.2.1, X_623.2.2.2.2.2.2.2.2.2.1, X_623.2.2.2.2.2.2.2.2.2.2.1, X_623.2.2.2.2.2.2.2.2.2.2.2.1, X_623.2.2.2.2.2.2.2.2.2.2.2.2.1, X_623.2.2.2.2.2.2.2.2.2.2.2.2.2.1, X_623.2.2.2.2.2.2.2.2.2.2.2.2.2.2.1, X_623.2.2.2.2.2.2.2.2.2.2.2.2.2.2.2.1, X_623.2.2.2.2.2.2.2.2.2.2.2.2.2.2.2.2.1, X_623.2.2.2.2.2.2.2.2.2.2.2.2.2.2.2.2.2.1, X_623.2.2.2.2.2.2.2.2.2.2.2.2.2.2.2.2.2.2.1, X_623.2.2.2.2.2.2.2.2.2.2.2.2.2.2.2.2.2.2.2⟩ (fun hH5 => ?_)
  clear hK K hHeld
  have hHeld := hH5
  clear hH5
  try simp only [Act.put, List.setIfInBounds_toArray, List.set_cons_zero, List.set_cons_succ]
  refine wpAnyH_ready (rs := [18]) (by kernel_rfl) (by simp) ?_
  refine AllReadyH.cons (o := _) rfl (fun K hK => ?_) AllReadyH.nil
  go_simp
  refine (AC _ T_621).mono ?_; rintro e w87 ⟨rfl, v87, T_625, x87, ho87⟩
  have X_626 := X_623.keep x87.size (x87.block _ X_623.1 nfT)
  have nfXT_627 := foot_newer nfT X_623.1 ho87
  have apTU_628 := Apart.kept ap U_622.lt ho87
  have U_629 := U_622.beside x87 (Apart.symm ap)
  have B630 := T_621.after (Nat.le_refl _) B624 x87
  clear nfT X_623 B624 T_621 x87 ho87 ap U_622
  show K _ _
  refine hK.out _ _ ⟨X_626.2.1, X_626.2.2.1, X_626.2.2.2.1, X_626.2.2.2.2.1, X_626.2.2.2.2.2.1, X_626.2.2.2.2.2.2.1, X_626.2.2.2.2.2.2.2.1, X_626.2.2.2.2.2.2.2.2.1, X_626.2.2.2.2.2.2.2.2.2.1, X_626.2.2.2.2.2.2.2.2.2.2.1, X_626.2.2.2.2.2.2.2.2.2.2.2.1, X_626.2.2.2.2.2.2.2.2.2.2.2.2.1, X_626.2.2.2.2.2.2.2.2.2.2.2.2.2.1, X_626.2.2.2.2.2.2.2.2.2.2.2.2.2.2.1, X_626.2.2.2.2.2.2.2.2.2.2.2.2.2.2.2.1, X_626.2.2.2.2.2.2.2.2.2.2.2.2.2.2.2.2.1, X_626.2.2.2.2.2.2.2.2.2.2.2.2.2.2.2.2.2.1, X_626.2.2.2.2.2.2.2.2.2.2.2.2.2.2.2.2.2.2.1, X_626.2.2.2.2.2.2.2.2.2.2.2.2.2.2.2.2.2.2.2⟩ (fun hH6 => ?_)
  clear hK K hHeld
  have hHeld := hH6
  clear hH6
  try simp only [Act.put, List.setIfInBounds_toArray, List.set_cons_zero, List.set_cons_succ]
  refine wpAnyH_ready (rs := [24]) (by kernel_rfl) (by simp) ?_
  refine AllReadyH.cons (o := _) rfl (fun K hK => ?_) AllReadyH.nil
  go_simp
  refine (ru _).mono ?_; rintro e w88 ⟨rfl, x88⟩
  have T_631 := T_625.on x88
  clear T_625
  have U_632 := U_629.on x88
  clear U_629
  have X_633 := X_626.on x88
  have B634 := B630.trans (x88.mono B630.size)
  clear X_626 B630 x88
  show K _ _
  refine hK.out _ _ ⟨X_633.2.1, X_633.2.2.1, X_633.2.2.2.1, X_633.2.2.2.2.1, X_633.2.2.2.2.2.1, X_633.2.2.2.2.2.2.1, X_633.2.2.2.2.2.2.2.1, X_633.2.2.2.2.2.2.2.2.1, X_633.2.2.2.2.2.2.2.2.2.1, X_633.2.2.2.2.2.2.2.2.2.2.1, X_633.2.2.2.2.2.2.2.2.2.2.2.1, X_633.2.2.2.2.2.2.2.2.2.2.2.2.1, X_633.2.2.2.2.2.2.2.2.2.2.2.2.2.1, X_633.2.2.2.2.2.2.2.2.2.2.2.2.2.2.1, X_633.2.2.2.2.2.2.2.2.2.2.2.2.2.2.2.1, X_633.2.2.2.2.2.2.2.2.2.2.2.2.2.2.2.2.1, X_633.2.2.2.2.2.2.2.2.2.2.2.2.2.2.2.2.2.1, X_633.2.2.2.2.2.2.2.2.2.2.2.2.2.2.2.2.2.2.1, X_633.2.2.2.2.2.2.2.2.2.2.2.2.2.2.2.2.2.2.2⟩ (fun hH7 => ?_)
  clear hK K hHeld
  have hHeld := hH7
  clear hH7
  try simp only [Act.put, List.setIfInBounds_toArray, List.set_cons_zero, List.set_cons_succ]
  refine wpAnyH_ready (rs := [25]) (by kernel_rfl) (by simp) ?_
  refine AllReadyH.cons (o := _) rfl (fun K hK => ?_) AllReadyH.nil
  go_simp
  refine (AD _ U_632).mono ?_; rintro e w89 ⟨rfl, v89, U_635, x89, ho89⟩
  have X_636 := X_633.keep x89.size (x89.block _ X_633.1 nfU)
  have nfXU_637 := foot_newer nfU X_633.1 ho89
  have apUT_638 := Apart.kept (Apart.symm apTU_628) T_631.lt ho89
  have T_639 := T_631.beside x89 (Apart.symm (Apart.symm apTU_628))
  have B640 := U_632.after (Nat.le_refl _) B634 x89
  clear nfU X_633 B634 U_632 x89 ho89 apTU_628 T_631
  show K _ _
  refine hK.out _ _ ⟨X_636.2.1, X_636.2.2.1, X_636.2.2.2.1, X_636.2.2.2.2.1, X_636.2.2.2.2.2.1, X_636.2.2.2.2.2.2.1, X_636.2.2.2.2.2.2.2.1, X_636.2.2.2.2.2.2.2.2.1, X_636.2.2.2.2.2.2.2.2.2.1, X_636.2.2.2.2.2.2.2.2.2.2.1, X_636.2.2.2.2.2.2.2.2.2.2.2.1, X_636.2.2.2.2.2.2.2.2.2.2.2.2.1, X_636.2.2.2.2.2.2.2.2.2.2.2.2.2.1, X_636.2.2.2.2.2.2.2.2.2.2.2.2.2.2.1, X_636.2.2.2.2.2.2.2.2.2.2.2.2.2.2.2.1, X_636.2.2.2.2.2.2.2.2.2.2.2.2.2.2.2.2.1, X_636.2.2.2.2.2.2.2.2.2.2.2.2.2.2.2.2.2.1, X_636.2.2.2.2.2.2.2.2.2.2.2.2.2.2.2.2.2.2.1, X_636.2.2.2.2.2.2.2.2.2.2.2.2.2.2.2.2.2.2.2⟩ (fun hH8 => ?_)
  clear hK K hHeld
  have hHeld := hH8
  clear hH8
  try simp only [Act.put, List.setIfInBounds_toArray, List.set_cons_zero, List.set_cons_succ]
  refine wpAnyH_take (i := 26) (oi := _) (v := ?_) rfl (by kernel_rfl) (by kernel_rfl) (by kernel_rfl) (fun _ _ _ h => hP _ _ _ _ _ h) (Or.inl ⟨by kernel_rfl, ?_⟩) (by assumption) ?_
  rotate_left
  · intro w hSw
    clear hSw
    go_simp
    with_reducible rfl
  try simp only [Act.put, List.setIfInBounds_toArray, List.set_cons_zero, List.set_cons_succ]
  refine wpAnyH_take (i := 27) (oi := _) (v := ?_) rfl (by kernel_rfl) (by kernel_rfl) (by kernel_rfl) (fun _ _ _ h => hP _ _ _ _ _ h) (Or.inl ⟨by kernel_rfl, ?_⟩) (by assumption) ?_
  rotate_left
  · intro w hSw
    clear hSw
    go_simp
    with_reducible rfl
  try simp only [Act.put, List.setIfInBounds_toArray, List.set_cons_zero, List.set_cons_succ]
  refine wpAnyH_take (i := 28) (oi := _) (v := ?_) rfl (by kernel_rfl) (by kernel_rfl) (by kernel_rfl) (fun _ _ _ h => hP _ _ _ _ _ h) (Or.inl ⟨by kernel_rfl, ?_⟩) (by assumption) ?_
  rotate_left
  · intro w hSw
    clear hSw
    go_simp
    with_reducible rfl
  try simp only [Act.put, List.setIfInBounds_toArray, List.set_cons_zero, List.set_cons_succ]
  try simp only [List.getElem_toArray, List.getElem_cons_succ, List.getElem_cons_zero, Act.put, List.setIfInBounds_toArray, List.set_cons_zero, List.set_cons_succ]
  refine wpAnyH_done (by kernel_rfl) ?_ _
  clear hHeld
  go_wp2
  exact ⟨rfl, _, _, _, _, rfl, B640, T_639, U_635, (Apart.symm apUT_638), G2, X_636⟩
end RulesPlay
end Go.Proofs.Ytoogegpkgohffaa
