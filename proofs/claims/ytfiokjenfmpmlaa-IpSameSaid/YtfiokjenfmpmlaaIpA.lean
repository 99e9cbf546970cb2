/- A header's bytes; contracts of the document's answers for layer 4: number, addr, Bytes. -/
import Derived.Test.YtfiokjenfmpmlaaSumsC
import Derived.Test.YtfiokjenfmpmlaaFieldsQ
import Derived.Test.YtfiokjenfmpmlaaRegion
import Derived.Deep.RegionWith
namespace Go.Proofs.Ytfiokjenfmpmlaa
set_option linter.unusedVariables false
set_option linter.unusedSimpArgs false
open Go.ChangeShapes Go.WideShapes Go.ChangeAt Go.RowKit Go.PlainAid
/-- A header's words, but for its options. -/
def hdrW (a id : Int) (fl : Bool) (tt pr sr ds : Int) (n : Nat) (size sum : Int) : List Int :=
  [256 * (69 + (n : Int) / 4) + a, size, id, if fl then 16384 else 0, 256 * tt + pr, sum, sr / 65536, sr % 65536, ds / 65536, ds % 65536]
def hdrB (a id : Int) (fl : Bool) (tt pr sr ds : Int) (o : ByteArray) (size sum : Int) : ByteArray :=
  strOfNums (wordL (hdrW a id fl tt pr sr ds o.size size sum)) ++ o
theorem hdrB_parts (a id : Int) (fl : Bool) (tt pr sr ds : Int) (o : ByteArray) (size sum : Int) (a0 : 0 ≤ a) (a1 : a ≤ 255) (p0 : 0 ≤ pr) (p1 : pr ≤ 255) :
    strOfNums [69 + (o.size : Int) / 4, a] ++ strOfNums (wordL [size, id, if fl then 16384 else 0]) ++ strOfNums [tt, pr] ++ strOfNums (wordL [sum]) ++ strOfNums (wordL [sr / 65536, sr % 65536]) ++ strOfNums (wordL [ds / 65536, ds % 65536]) ++ o = hdrB a id fl tt pr sr ds o size sum := by
  unfold hdrB
  congr 1
  simp only [strOfNums_append]
  congr 1
  simp only [hdrW, wordL, List.flatMap_cons, List.flatMap_nil, List.append_nil, List.cons_append, List.nil_append]
  rw [show (256 * (69 + (o.size : Int) / 4) + a) / 256 = 69 + (o.size : Int) / 4 by omega, show (256 * (69 + (o.size : Int) / 4) + a) % 256 = a by omega, show (256 * tt + pr) / 256 = tt by omega, show (256 * tt + pr) % 256 = pr by omega]
set_option maxHeartbeats 400000 in
theorem number4_ (s : ByteArray) (k : Nat) (w : World) (hs : s.size ≤ maxLen) (h : k + 2 ≤ s.size) :
    Calls Try.prog 19 #[.string s, .int .i64 (k : Int)] w fun e w' => e = .returned (.int .i64 (g16 s k)) ∧ w = w' := by
  have c0 := g16_nonneg s k
  have c1 := g16_le s k
  have e1 : IntKind.i64.wrap (g16 s k) = g16 s k := IntWalk.i64_in _ (by omega)
  go_enter Try.func19, Try.ntmps19
  go_wp2_with fail
  refine (rget16_yes s k _ hs h).mono ?_; rintro e w' ⟨rfl, rfl⟩
  go_wp2
  go_ret
  exact ⟨rfl, rfl⟩
set_option maxHeartbeats 400000 in
theorem addr4_ (s : ByteArray) (k : Nat) (w : World) (hs : s.size ≤ maxLen) (h : k + 4 ≤ s.size) :
    Calls Try.prog 21 #[.string s, .int .i64 (k : Int)] w fun e w' => e = .returned (.int .u32 (g32 s k)) ∧ w = w' := by
  go_enter Try.func21, Try.ntmps21
  go_wp2_with fail
  refine (rget32_yes s k _ hs h).mono ?_; rintro e w' ⟨rfl, rfl⟩
  go_wp2
  go_ret
  exact ⟨rfl, rfl⟩
theorem kept_ {W w1 : World} {a : Addr} {v : Value} (hb : Below W.heap.size W w1) (h : W.cell? a = some v) (ha : a.block < W.heap.size) : w1.cell? a = some v := (hb.cell ha).trans h
theorem row3 {k : IntKind} {w : World} {b : Nat} {x y z : Int} (hb : b < w.heap.size) (h0 : w.cell? ⟨b, 0, none⟩ = some (.int k x)) (h1 : w.cell? ⟨b, 1, none⟩ = some (.int k y)) (h2 : w.cell? ⟨b, 2, none⟩ = some (.int k z)) : Row k w (some ⟨b, 0, none⟩) 3 [x, y, z] :=
  ⟨rfl, .inr ⟨b, 0, rfl, hb, by
    intro t ht
    match t, ht with
    | 0, _ => simpa using h0
    | 1, _ => simpa using h1
    | 2, _ => simpa using h2⟩⟩
/-- Two bytes of a new block, as a text. -/
theorem conv2 (W : World) (n : Nat) (x y : Int) (hn : n = W.heap.size) :
    (convert 41 9 (.slice (some ⟨n, 0, none⟩) 2 2)).run Try.prog (W.alloc (.cells #[.int .u8 x, .int .u8 y] 5)) = .ok (.string (strOfNums [x, y])) (W.alloc (.cells #[.int .u8 x, .int .u8 y] 5)) := by
  subst hn
  exact run_convert_bytes_arg (P := Try.prog) (W.alloc (.cells #[.int .u8 x, .int .u8 y] 5)) 41 5 Try.underlying41 Try.underlying5 W.heap.size 0 2 2 [x, y] rfl (by
    intro i hi
    match i, hi with
    | 0, _ => simp
    | 1, _ => simp) 9 Try.underlying9
set_option maxHeartbeats 4000000 in
set_option maxRecDepth 100000 in
theorem rbytes_ (a id : Int) (fl : Bool) (tt pr sr ds : Int) (o : ByteArray) (size sum : Int) (w : World) (a0 : 0 ≤ a) (a1 : a ≤ 255) (i0 : 0 ≤ id) (i1 : id ≤ 65535) (t0 : 0 ≤ tt) (t1 : tt ≤ 255) (p0 : 0 ≤ pr) (p1 : pr ≤ 255)
    (s0 : 0 ≤ sr) (s1 : sr ≤ 4294967295) (d0 : 0 ≤ ds) (d1 : ds ≤ 4294967295) (ho : o.size ≤ 40) (z0 : 0 ≤ size) (z1 : size ≤ 65535) (m0 : 0 ≤ sum) (m1 : sum ≤ 65535) :
    Calls Try.prog 25 #[.agg #[.int .u8 a, .int .u16 id, .bool fl, .int .u8 tt, .int .u8 pr, .int .u32 sr, .int .u32 ds, .string o], .int .i64 size, .int .u16 sum] w fun e w' => e = .returned (.string (hdrB a id fl tt pr sr ds o size sum)) ∧ Below w.heap.size w w' := by
  have HV := Lib.hid (hdrB_parts a id fl tt pr sr ds o size sum a0 a1 p0 p1)
  have ho2 : (o.size : Int) ≤ 40 := by omega
  cases fl
  · have HV2 : Hid (strOfNums [69 + (o.size : Int) / 4, a] ++ strOfNums (wordL [size, id, 0]) ++ strOfNums [tt, pr] ++ strOfNums (wordL [sum]) ++ strOfNums (wordL [sr / 65536, sr % 65536]) ++ strOfNums (wordL [ds / 65536, ds % 65536]) ++ o = hdrB a id false tt pr sr ds o size sum) := HV.out
    obtain ⟨u1, hu1⟩ : ∃ u, u = strOfNums [69 + (o.size : Int) / 4, a] := ⟨_, rfl⟩
    obtain ⟨u2, hu2⟩ : ∃ u, u = strOfNums (wordL [size, id, 0]) := ⟨_, rfl⟩
    obtain ⟨u3, hu3⟩ : ∃ u, u = strOfNums [tt, pr] := ⟨_, rfl⟩
    obtain ⟨u4, hu4⟩ : ∃ u, u = strOfNums (wordL [sum]) := ⟨_, rfl⟩
    obtain ⟨u5, hu5⟩ : ∃ u, u = strOfNums (wordL [sr / 65536, sr % 65536]) := ⟨_, rfl⟩
    obtain ⟨u6, hu6⟩ : ∃ u, u = strOfNums (wordL [ds / 65536, ds % 65536]) := ⟨_, rfl⟩
    have z1 : u1.size = 2 := by rw [hu1, strOfNums_size]; rfl
    have z2 : u2.size = 6 := by rw [hu2, size_W]; rfl
    have z3 : u3.size = 2 := by rw [hu3, strOfNums_size]; rfl
    have z4 : u4.size = 2 := by rw [hu4, size_W]; rfl
    have z5 : u5.size = 4 := by rw [hu5, size_W]; rfl
    have z6 : u6.size = 4 := by rw [hu6, size_W]; rfl
    have q1 : u1.size + u2.size ≤ 9223372036854775807 := by omega
    have q2 : u1.size + u2.size + u3.size ≤ 9223372036854775807 := by omega
    have q3 : u1.size + u2.size + u3.size + u4.size ≤ 9223372036854775807 := by omega
    have q4 : u1.size + u2.size + u3.size + u4.size + u5.size ≤ 9223372036854775807 := by omega
    have q5 : u1.size + u2.size + u3.size + u4.size + u5.size + u6.size ≤ 9223372036854775807 := by omega
    have q6 : u1.size + u2.size + u3.size + u4.size + u5.size + u6.size + o.size ≤ 9223372036854775807 := by omega
    have k1 := conv2 (w.alloc (.cells #[.int .u8 a, .int .u16 id, .bool false, .int .u8 tt, .int .u8 pr, .int .u32 sr, .int .u32 ds, .string o] 30)) (w.heap.size + 1) (69 + (o.size : Int) / 4) a (by simp)
    rw [← hu1] at k1
    have c2 : ∀ u (b : Nat), b < u.heap.size → u.cell? ⟨b, 0, none⟩ = some (.int .u16 size) → u.cell? ⟨b, 1, none⟩ = some (.int .u16 id) → u.cell? ⟨b, 2, none⟩ = some (.int .u16 0) → Calls Try.prog 42 #[.slice (some ⟨b, 0, none⟩) 3 3] u fun e w' => e = .returned (.string u2) ∧ Below u.heap.size u w' := by
      intro u b hb h0 h1 h2
      rw [hu2]
      exact rword_any _ 3 3 [size, id, 0] u (row3 hb h0 h1 h2) (by omega) (by intro x hx; simp at hx; omega)
    have k3 := fun W => conv2 W W.heap.size tt pr rfl
    rw [← hu3] at k3
    have k4 : ∀ u, Calls Try.prog 43 #[.int .u16 sum] u fun e w' => e = .returned (.string u4) ∧ Below u.heap.size u w' := by rw [hu4]; exact fun u => rput16 sum u m0 m1
    have k5 : ∀ u, Calls Try.prog 44 #[.int .u32 sr] u fun e w' => e = .returned (.string u5) ∧ Below u.heap.size u w' := by rw [hu5]; exact fun u => rput32 sr u s0 s1
    have k6 : ∀ u, Calls Try.prog 44 #[.int .u32 ds] u fun e w' => e = .returned (.string u6) ∧ Below u.heap.size u w' := by rw [hu6]; exact fun u => rput32 ds u d0 d1
    rw [← hu1, ← hu2, ← hu3, ← hu4, ← hu5, ← hu6] at HV2
    have HZ := Lib.hid (And.intro z1 (And.intro z2 (And.intro z3 (And.intro z4 (And.intro z5 z6)))))
    clear hu1 hu2 hu3 hu4 hu5 hu6 HV z1 z2 z3 z4 z5 z6
    go_enter Try.func25, Try.ntmps25
    go_wp2_with fail
    refine (c2 _ _ (by simp) (by simp [go_sem]) (by simp [go_sem]) (by simp [go_sem])).mono ?_; rintro e w2 ⟨rfl, b2⟩
    have e3 : w2.cell? ⟨w.heap.size, 3, none⟩ = some (.int .u8 tt) := kept_ b2 (by simp [go_sem]) (by simp; omega)
    have e4 : w2.cell? ⟨w.heap.size, 4, none⟩ = some (.int .u8 pr) := kept_ b2 (by simp [go_sem]) (by simp; omega)
    have e5 : w2.cell? ⟨w.heap.size, 5, none⟩ = some (.int .u32 sr) := kept_ b2 (by simp [go_sem]) (by simp; omega)
    have e6 : w2.cell? ⟨w.heap.size, 6, none⟩ = some (.int .u32 ds) := kept_ b2 (by simp [go_sem]) (by simp; omega)
    have e7 : w2.cell? ⟨w.heap.size, 7, none⟩ = some (.string o) := kept_ b2 (by simp [go_sem]) (by simp; omega)
    have s2 : w.heap.size < w2.heap.size := by have := b2.size; simp at this; omega
    have B2 : Below w.heap.size w w2 := ((((Below.refl _ _).alloc (Nat.le_refl _) _).alloc (by simp) _).alloc (by simp; omega) _).trans (b2.mono (by simp; omega))
    clear b2 k1 c2
    have k3' := k3 w2
    clear k3
    go_wp2_with fail
    obtain ⟨w3, hw3⟩ : ∃ w3, w3 = w2.alloc (.cells #[.int .u8 tt, .int .u8 pr] 5) := ⟨_, rfl⟩
    have B3 : Below w.heap.size w w3 := by rw [hw3]; exact B2.alloc B2.size _
    have s3 : w.heap.size < w3.heap.size := by rw [hw3]; simp; omega
    have e5 : w3.cell? ⟨w.heap.size, 5, none⟩ = some (.int .u32 sr) := by rw [hw3]; exact (World.cell?_alloc_past _ _ _ s2).trans e5
    have e6 : w3.cell? ⟨w.heap.size, 6, none⟩ = some (.int .u32 ds) := by rw [hw3]; exact (World.cell?_alloc_past _ _ _ s2).trans e6
    have e7 : w3.cell? ⟨w.heap.size, 7, none⟩ = some (.string o) := by rw [hw3]; exact (World.cell?_alloc_past _ _ _ s2).trans e7
    rw [← hw3]
    clear hw3 k3' B2 s2
    have d5 : ∀ q : Later w3.heap.size w3, q.u.cell? ⟨w.heap.size, 5, none⟩ = some (.int .u32 sr) := fun q => q.block s3 e5
    have d6 : ∀ q : Later w3.heap.size w3, q.u.cell? ⟨w.heap.size, 6, none⟩ = some (.int .u32 ds) := fun q => q.block s3 e6
    refine region_later (B := w3.heap.size) (by kernel_rfl) (by kernel_rfl) ?_
    repeat (go_big_quiet_step (first
      | (go_at_call 43; exact later_of _ (Nat.le_refl _) (k4 _))
      | (go_at_call_of 44 sr; exact later_of _ (Nat.le_refl _) (k5 _))
      | (go_at_call_of 44 ds; exact later_of _ (Nat.le_refl _) (k6 _))))
    refine later_end fun w4 b4 => ?_
    have e7 := kept_ b4 e7 s3
    have B4 := B3.trans (b4.mono B3.size)
    clear d5 d6 b4 B3 k4 k5 k6
    go_wp2
    go_ret
    rw [← HV2.out]
    exact ⟨rfl, B4⟩
  · have HV2 : Hid (strOfNums [69 + (o.size : Int) / 4, a] ++ strOfNums (wordL [size, id, 16384]) ++ strOfNums [tt, pr] ++ strOfNums (wordL [sum]) ++ strOfNums (wordL [sr / 65536, sr % 65536]) ++ strOfNums (wordL [ds / 65536, ds % 65536]) ++ o = hdrB a id true tt pr sr ds o size sum) := HV.out
    obtain ⟨u1, hu1⟩ : ∃ u, u = strOfNums [69 + (o.size : Int) / 4, a] := ⟨_, rfl⟩
    obtain ⟨u2, hu2⟩ : ∃ u, u = strOfNums (wordL [size, id, 16384]) := ⟨_, rfl⟩
    obtain ⟨u3, hu3⟩ : ∃ u, u = strOfNums [tt, pr] := ⟨_, rfl⟩
    obtain ⟨u4, hu4⟩ : ∃ u, u = strOfNums (wordL [sum]) := ⟨_, rfl⟩
    obtain ⟨u5, hu5⟩ : ∃ u, u = strOfNums (wordL [sr / 65536, sr % 65536]) := ⟨_, rfl⟩
    obtain ⟨u6, hu6⟩ : ∃ u, u = strOfNums (wordL [ds / 65536, ds % 65536]) := ⟨_, rfl⟩
    have z1 : u1.size = 2 := by rw [hu1, strOfNums_size]; rfl
    have z2 : u2.size = 6 := by rw [hu2, size_W]; rfl
    have z3 : u3.size = 2 := by rw [hu3, strOfNums_size]; rfl
    have z4 : u4.size = 2 := by rw [hu4, size_W]; rfl
    have z5 : u5.size = 4 := by rw [hu5, size_W]; rfl
    have z6 : u6.size = 4 := by rw [hu6, size_W]; rfl
    have q1 : u1.size + u2.size ≤ 9223372036854775807 := by omega
    have q2 : u1.size + u2.size + u3.size ≤ 9223372036854775807 := by omega
    have q3 : u1.size + u2.size + u3.size + u4.size ≤ 9223372036854775807 := by omega
    have q4 : u1.size + u2.size + u3.size + u4.size + u5.size ≤ 9223372036854775807 := by omega
    have q5 : u1.size + u2.size + u3.size + u4.size + u5.size + u6.size ≤ 9223372036854775807 := by omega
    have q6 : u1.size + u2.size + u3.size + u4.size + u5.size + u6.size + o.size ≤ 9223372036854775807 := by omega
    have k1 := conv2 (w.alloc (.cells #[.int .u8 a, .int .u16 id, .bool true, .int .u8 tt, .int .u8 pr, .int .u32 sr, .int .u32 ds, .string o] 30)) (w.heap.size + 1) (69 + (o.size : Int) / 4) a (by simp)
    rw [← hu1] at k1
    have c2 : ∀ u (b : Nat), b < u.heap.size → u.cell? ⟨b, 0, none⟩ = some (.int .u16 size) → u.cell? ⟨b, 1, none⟩ = some (.int .u16 id) → u.cell? ⟨b, 2, none⟩ = some (.int .u16 16384) → Calls Try.prog 42 #[.slice (some ⟨b, 0, none⟩) 3 3] u fun e w' => e = .returned (.string u2) ∧ Below u.heap.size u w' := by
      intro u b hb h0 h1 h2
      rw [hu2]
      exact rword_any _ 3 3 [size, id, 16384] u (row3 hb h0 h1 h2) (by omega) (by intro x hx; simp at hx; omega)
    have k3 := fun W => conv2 W W.heap.size tt pr rfl
    rw [← hu3] at k3
    have k4 : ∀ u, Calls Try.prog 43 #[.int .u16 sum] u fun e w' => e = .returned (.string u4) ∧ Below u.heap.size u w' := by rw [hu4]; exact fun u => rput16 sum u m0 m1
    have k5 : ∀ u, Calls Try.prog 44 #[.int .u32 sr] u fun e w' => e = .returned (.string u5) ∧ Below u.heap.size u w' := by rw [hu5]; exact fun u => rput32 sr u s0 s1
    have k6 : ∀ u, Calls Try.prog 44 #[.int .u32 ds] u fun e w' => e = .returned (.string u6) ∧ Below u.heap.size u w' := by rw [hu6]; exact fun u => rput32 ds u d0 d1
    rw [← hu1, ← hu2, ← hu3, ← hu4, ← hu5, ← hu6] at HV2
    have HZ := Lib.hid (And.intro z1 (And.intro z2 (And.intro z3 (And.intro z4 (And.intro z5 z6)))))
    clear hu1 hu2 hu3 hu4 hu5 hu6 HV z1 z2 z3 z4 z5 z6
    go_enter Try.func25, Try.ntmps25
    go_wp2_with fail
    refine (c2 _ _ (by simp) (by simp [go_sem]) (by simp [go_sem]) (by simp [go_sem])).mono ?_; rintro e w2 ⟨rfl, b2⟩
    have e3 : w2.cell? ⟨w.heap.size, 3, none⟩ = some (.int .u8 tt) := kept_ b2 (by simp [go_sem]) (by simp; omega)
    have e4 : w2.cell? ⟨w.heap.size, 4, none⟩ = some (.int .u8 pr) := kept_ b2 (by simp [go_sem]) (by simp; omega)
    have e5 : w2.cell? ⟨w.heap.size, 5, none⟩ = some (.int .u32 sr) := kept_ b2 (by simp [go_sem]) (by simp; omega)
    have e6 : w2.cell? ⟨w.heap.size, 6, none⟩ = some (.int .u32 ds) := kept_ b2 (by simp [go_sem]) (by simp; omega)
    have e7 : w2.cell? ⟨w.heap.size, 7, none⟩ = some (.string o) := kept_ b2 (by simp [go_sem]) (by simp; omega)
    have s2 : w.heap.size < w2.heap.size := by have := b2.size; simp at this; omega
    have B2 : Below w.heap.size w w2 := ((((Below.refl _ _).alloc (Nat.le_refl _) _).alloc (by simp) _).alloc (by simp; omega) _).trans (b2.mono (by simp; omega))
    clear b2 k1 c2
    have k3' := k3 w2
    clear k3
    go_wp2_with fail
    obtain ⟨w3, hw3⟩ : ∃ w3, w3 = w2.alloc (.cells #[.int .u8 tt, .int .u8 pr] 5) := ⟨_, rfl⟩
    have B3 : Below w.heap.size w w3 := by rw [hw3]; exact B2.alloc B2.size _
    have s3 : w.heap.size < w3.heap.size := by rw [hw3]; simp; omega
    have e5 : w3.cell? ⟨w.heap.size, 5, none⟩ = some (.int .u32 sr) := by rw [hw3]; exact (World.cell?_alloc_past _ _ _ s2).trans e5
    have e6 : w3.cell? ⟨w.heap.size, 6, none⟩ = some (.int .u32 ds) := by rw [hw3]; exact (World.cell?_alloc_past _ _ _ s2).trans e6
    have e7 : w3.cell? ⟨w.heap.size, 7, none⟩ = some (.string o) := by rw [hw3]; exact (World.cell?_alloc_past _ _ _ s2).trans e7
    rw [← hw3]
    clear hw3 k3' B2 s2
    have d5 : ∀ q : Later w3.heap.size w3, q.u.cell? ⟨w.heap.size, 5, none⟩ = some (.int .u32 sr) := fun q => q.block s3 e5
    have d6 : ∀ q : Later w3.heap.size w3, q.u.cell? ⟨w.heap.size, 6, none⟩ = some (.int .u32 ds) := fun q => q.block s3 e6
    refine region_later (B := w3.heap.size) (by kernel_rfl) (by kernel_rfl) ?_
    repeat (go_big_quiet_step (first
      | (go_at_call 43; exact later_of _ (Nat.le_refl _) (k4 _))
      | (go_at_call_of 44 sr; exact later_of _ (Nat.le_refl _) (k5 _))
      | (go_at_call_of 44 ds; exact later_of _ (Nat.le_refl _) (k6 _))))
    refine later_end fun w4 b4 => ?_
    have e7 := kept_ b4 e7 s3
    have B4 := B3.trans (b4.mono B3.size)
    clear d5 d6 b4 B3 k4 k5 k6
    go_wp2
    go_ret
    rw [← HV2.out]
    exact ⟨rfl, B4⟩
end Go.Proofs.Ytfiokjenfmpmlaa
