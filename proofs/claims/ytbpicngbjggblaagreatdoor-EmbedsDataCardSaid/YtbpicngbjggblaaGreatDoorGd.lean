/- Texts of this proof, together: IpA, IpB, IpC, IpD, IpE, IpF, IpG. -/
import Derived.Test.YtbpicngbjggblaaGreatDoorGb
import Derived.Test.YtbpicngbjggblaaGreatDoorGa
import Derived.Test.YtbpicngbjggblaaGreatDoorTake
import Derived.Deep.RegionWith
import Derived.Deep.RegionHeld3
import Derived.Deep.DrawnRows
namespace Go.Proofs.YtbpicngbjggblaaGreatDoor
set_option maxHeartbeats 4000000
set_option maxRecDepth 100000
set_option linter.unusedVariables false
set_option linter.unusedSimpArgs false
open Go.ChangeShapes Go.WideShapes Go.ChangeAt Go.RowKit Go.PlainAid
/-- A header's words, but for its options. -/
def hdrW (a id : Int) (fl : Bool) (tt pr sr ds : Int) (n : Nat) (size sum : Int) : List Int :=
  [256 * (69 + (n : Int) / 4) + a, size, id, if fl then 16384 else 0, 256 * tt + pr, sum, sr / 65536, sr % 65536, ds / 65536, ds % 65536]
def hdrB (a id : Int) (fl : Bool) (tt pr sr ds : Int) (o : ByteArray) (size sum : Int) : ByteArray :=
  strOfNums (wordL (hdrW a id fl tt pr sr ds o.size size sum)) ++ o
theorem hdrB_parts (a id : Int) (fl : Bool) (tt pr sr ds : Int) (o : ByteArray) (size sum : Int) (a0 : 0 ≤ a) (a1 : a ≤ 255) (p0 : 0 ≤ pr) (p1 : pr ≤ 255) :
    strOfNums [69 + (o.size : Int) / 4, a] ++ strOfNums (wordL [size, id, if fl then 16384 else 0]) ++ strOfNums [tt, pr] ++ strOfNums (wordL [sum]) ++ strOfNums (wordL [sr / 65536, sr % 65536]) ++ strOfNums (wordL [ds / 65536, ds % 65536]) ++ o = hdrB a id fl tt pr sr ds o size sum := by
  unfold hdrB
  congr 1
  simp only [strOfNums_append]
  congr 1
  simp only [hdrW, wordL, List.flatMap_cons, List.flatMap_nil, List.append_nil, List.cons_append, List.nil_append]
  rw [show (256 * (69 + (o.size : Int) / 4) + a) / 256 = 69 + (o.size : Int) / 4 by omega, show (256 * (69 + (o.size : Int) / 4) + a) % 256 = a by omega, show (256 * tt + pr) / 256 = tt by omega, show (256 * tt + pr) % 256 = pr by omega]
theorem number4_ (s : ByteArray) (k : Nat) (w : World) (hs : s.size ≤ maxLen) (h : k + 2 ≤ s.size) :
    Calls Tryz.prog 120 #[.string s, .int .i64 (k : Int)] w fun e w' => e = .returned (.int .i64 (g16 s k)) ∧ w = w' := by
  have c0 := g16_nonneg s k
  have c1 := g16_le s k
  have e1 : IntKind.i64.wrap (g16 s k) = g16 s k := IntWalk.i64_in _ (by omega)
  go_enter Tryz.func120, Tryz.ntmps120
  go_wp2_with fail
  refine (rget16_yes s k _ hs h).mono ?_; rintro e w' ⟨rfl, rfl⟩
  go_wp2
  go_ret
  exact ⟨rfl, rfl⟩
theorem addr4_ (s : ByteArray) (k : Nat) (w : World) (hs : s.size ≤ maxLen) (h : k + 4 ≤ s.size) :
    Calls Tryz.prog 122 #[.string s, .int .i64 (k : Int)] w fun e w' => e = .returned (.int .u32 (g32 s k)) ∧ w = w' := by
  go_enter Tryz.func122, Tryz.ntmps122
  go_wp2_with fail
  refine (rget32_yes s k _ hs h).mono ?_; rintro e w' ⟨rfl, rfl⟩
  go_wp2
  go_ret
  exact ⟨rfl, rfl⟩
theorem ipKept_ {W w1 : World} {a : Addr} {v : Value} (hb : Below W.heap.size W w1) (h : W.cell? a = some v) (ha : a.block < W.heap.size) : w1.cell? a = some v := (hb.cell ha).trans h
theorem row3 {k : IntKind} {w : World} {b : Nat} {x y z : Int} (hb : b < w.heap.size) (h0 : w.cell? ⟨b, 0, none⟩ = some (.int k x)) (h1 : w.cell? ⟨b, 1, none⟩ = some (.int k y)) (h2 : w.cell? ⟨b, 2, none⟩ = some (.int k z)) : Row k w (some ⟨b, 0, none⟩) 3 [x, y, z] :=
  ⟨rfl, .inr ⟨b, 0, rfl, hb, by
    intro t ht
    match t, ht with
    | 0, _ => simpa using h0
    | 1, _ => simpa using h1
    | 2, _ => simpa using h2⟩⟩
/-- Two bytes of a new block, as a text. -/
theorem conv2 (W : World) (n : Nat) (x y : Int) (hn : n = W.heap.size) :
    (convert 45 9 (.slice (some ⟨n, 0, none⟩) 2 2)).run Tryz.prog (W.alloc (.cells #[.int .u8 x, .int .u8 y] 5)) = .ok (.string (strOfNums [x, y])) (W.alloc (.cells #[.int .u8 x, .int .u8 y] 5)) := by
  subst hn
  exact run_convert_bytes_arg (P := Tryz.prog) (W.alloc (.cells #[.int .u8 x, .int .u8 y] 5)) 45 5 Tryz.underlying45 Tryz.underlying5 W.heap.size 0 2 2 [x, y] rfl (by
    intro i hi
    match i, hi with
    | 0, _ => simp
    | 1, _ => simp) 9 Tryz.underlying9
theorem conv2d (W : World) (x y : Int) :
    (convert 45 9 (.slice (some ⟨W.heap.size, 0, none⟩) 2 2)).run Tryz.prog (W.alloc (.cells #[.int .u8 x, .int .u8 y] 5)).drew = .ok (.string (strOfNums [x, y])) (W.alloc (.cells #[.int .u8 x, .int .u8 y] 5)).drew :=
  run_convert_bytes_arg (P := Tryz.prog) (W.alloc (.cells #[.int .u8 x, .int .u8 y] 5)).drew 45 5 Tryz.underlying45 Tryz.underlying5 W.heap.size 0 2 2 [x, y] rfl (by
    intro i hi
    match i, hi with
    | 0, _ => simp
    | 1, _ => simp) 9 Tryz.underlying9
theorem conv2k {W w2 : World} {x y : Int} (hb : Below (W.alloc (.cells #[.int .u8 x, .int .u8 y] 5)).drew.heap.size (W.alloc (.cells #[.int .u8 x, .int .u8 y] 5)).drew w2) :
    (convert 45 9 (.slice (some ⟨W.heap.size, 0, none⟩) 2 2)).run Tryz.prog w2 = .ok (.string (strOfNums [x, y])) w2 :=
  run_convert_bytes_arg (P := Tryz.prog) w2 45 5 Tryz.underlying45 Tryz.underlying5 W.heap.size 0 2 2 [x, y] rfl (by
    intro i hi
    rw [hb.cell (p := ⟨W.heap.size, 0 + i, none⟩) (by simp)]
    match i, hi with
    | 0, _ => simp
    | 1, _ => simp) 9 Tryz.underlying9
theorem rbytes_ (a id : Int) (fl : Bool) (tt pr sr ds : Int) (o : ByteArray) (size sum : Int) (w : World) (a0 : 0 ≤ a) (a1 : a ≤ 255) (i0 : 0 ≤ id) (i1 : id ≤ 65535) (t0 : 0 ≤ tt) (t1 : tt ≤ 255) (p0 : 0 ≤ pr) (p1 : pr ≤ 255)
    (s0 : 0 ≤ sr) (s1 : sr ≤ 4294967295) (d0 : 0 ≤ ds) (d1 : ds ≤ 4294967295) (ho : o.size ≤ 40) (z0 : 0 ≤ size) (z1 : size ≤ 65535) (m0 : 0 ≤ sum) (m1 : sum ≤ 65535) :
    Cw_ 43 #[.agg #[.int .u8 a, .int .u16 id, .bool fl, .int .u8 tt, .int .u8 pr, .int .u32 sr, .int .u32 ds, .string o], .int .i64 size, .int .u16 sum] (.string (hdrB a id fl tt pr sr ds o size sum)) w := by
  have HV := Lib.hid (hdrB_parts a id fl tt pr sr ds o size sum a0 a1 p0 p1)
  have ho2 : (o.size : Int) ≤ 40 := by omega
  cases fl
  · have HV2 : Hid (strOfNums [69 + (o.size : Int) / 4, a] ++ strOfNums (wordL [size, id, 0]) ++ strOfNums [tt, pr] ++ strOfNums (wordL [sum]) ++ strOfNums (wordL [sr / 65536, sr % 65536]) ++ strOfNums (wordL [ds / 65536, ds % 65536]) ++ o = hdrB a id false tt pr sr ds o size sum) := HV.out
    obtain ⟨u1, hu1⟩ : ∃ u, u = strOfNums [69 + (o.size : Int) / 4, a] := ⟨_, rfl⟩
    obtain ⟨u2, hu2⟩ : ∃ u, u = strOfNums (wordL [size, id, 0]) := ⟨_, rfl⟩
    obtain ⟨u3, hu3⟩ : ∃ u, u = strOfNums [tt, pr] := ⟨_, rfl⟩
    obtain ⟨u4, hu4⟩ : ∃ u, u = strOfNums (wordL [sum]) := ⟨_, rfl⟩
    obtain ⟨u5, hu5⟩ : ∃ u, u = strOfNums (wordL [sr / 65536, sr % 65536]) := ⟨_, rfl⟩
    obtain ⟨u6, hu6⟩ : ∃ u, u = strOfNums (wordL [ds / 65536, ds % 65536]) := ⟨_, rfl⟩
    have z1 : u1.size = 2 := by rw [hu1, strOfNums_size]; rfl
    have z2 : u2.size = 6 := by rw [hu2, size_W]; rfl
    have z3 : u3.size = 2 := by rw [hu3, strOfNums_size]; rfl
    have z4 : u4.size = 2 := by rw [hu4, size_W]; rfl
    have z5 : u5.size = 4 := by rw [hu5, size_W]; rfl
    have z6 : u6.size = 4 := by rw [hu6, size_W]; rfl
    have q1 : u1.size + u2.size ≤ 9223372036854775807 := by omega
    have q2 : u1.size + u2.size + u3.size ≤ 9223372036854775807 := by omega
    have q3 : u1.size + u2.size + u3.size + u4.size ≤ 9223372036854775807 := by omega
    have q4 : u1.size + u2.size + u3.size + u4.size + u5.size ≤ 9223372036854775807 := by omega
    have q5 : u1.size + u2.size + u3.size + u4.size + u5.size + u6.size ≤ 9223372036854775807 := by omega
    have q6 : u1.size + u2.size + u3.size + u4.size + u5.size + u6.size + o.size ≤ 9223372036854775807 := by omega
    have k1 := conv2 (w.alloc (.cells #[.int .u8 a, .int .u16 id, .bool false, .int .u8 tt, .int .u8 pr, .int .u32 sr, .int .u32 ds, .string o] 50)) (w.heap.size + 1) (69 + (o.size : Int) / 4) a (by simp)
    rw [← hu1] at k1
    have c2 : ∀ u (b : Nat), b < u.heap.size → u.cell? ⟨b, 0, none⟩ = some (.int .u16 size) → u.cell? ⟨b, 1, none⟩ = some (.int .u16 id) → u.cell? ⟨b, 2, none⟩ = some (.int .u16 0) → Calls Tryz.prog 91 #[.slice (some ⟨b, 0, none⟩) 3 3] u fun e w' => e = .returned (.string u2) ∧ Below u.heap.size u w' := by
      intro u b hb h0 h1 h2
      rw [hu2]
      exact rword_any _ 3 3 [size, id, 0] u (row3 hb h0 h1 h2) (by omega) (by intro x hx; simp at hx; omega)
    have k3 := fun W => conv2 W W.heap.size tt pr rfl
    rw [← hu3] at k3
    have k4 : ∀ u, Calls Tryz.prog 41 #[.int .u16 sum] u fun e w' => e = .returned (.string u4) ∧ Below u.heap.size u w' := by rw [hu4]; exact fun u => rput16 sum u m0 m1
    have k5 : ∀ u, Calls Tryz.prog 92 #[.int .u32 sr] u fun e w' => e = .returned (.string u5) ∧ Below u.heap.size u w' := by rw [hu5]; exact fun u => rput32 sr u s0 s1
    have k6 : ∀ u, Calls Tryz.prog 92 #[.int .u32 ds] u fun e w' => e = .returned (.string u6) ∧ Below u.heap.size u w' := by rw [hu6]; exact fun u => rput32 ds u d0 d1
    rw [← hu1, ← hu2, ← hu3, ← hu4, ← hu5, ← hu6] at HV2
    have HZ := Lib.hid (And.intro z1 (And.intro z2 (And.intro z3 (And.intro z4 (And.intro z5 z6)))))
    clear hu1 hu2 hu3 hu4 hu5 hu6 HV z1 z2 z3 z4 z5 z6
    go_enter Tryz.func43, Tryz.ntmps43
    go_wp2_with fail
    refine (c2 _ _ (by simp) (by simp [go_sem]) (by simp [go_sem]) (by simp [go_sem])).mono ?_; rintro e w2 ⟨rfl, b2⟩
    have e3 : w2.cell? ⟨w.heap.size, 3, none⟩ = some (.int .u8 tt) := ipKept_ b2 (by simp [go_sem]) (by simp; omega)
    have e4 : w2.cell? ⟨w.heap.size, 4, none⟩ = some (.int .u8 pr) := ipKept_ b2 (by simp [go_sem]) (by simp; omega)
    have e5 : w2.cell? ⟨w.heap.size, 5, none⟩ = some (.int .u32 sr) := ipKept_ b2 (by simp [go_sem]) (by simp; omega)
    have e6 : w2.cell? ⟨w.heap.size, 6, none⟩ = some (.int .u32 ds) := ipKept_ b2 (by simp [go_sem]) (by simp; omega)
    have e7 : w2.cell? ⟨w.heap.size, 7, none⟩ = some (.string o) := ipKept_ b2 (by simp [go_sem]) (by simp; omega)
    have s2 : w.heap.size < w2.heap.size := by have := b2.size; simp at this; omega
    have B2 : Below w.heap.size w w2 := ((((Below.refl _ _).alloc (Nat.le_refl _) _).alloc (by simp) _).alloc (by simp; omega) _).trans (b2.mono (by simp; omega))
    clear b2 k1 c2
    have k3' := k3 w2
    clear k3
    go_wp2_with fail
    obtain ⟨w3, hw3⟩ : ∃ w3, w3 = w2.alloc (.cells #[.int .u8 tt, .int .u8 pr] 5) := ⟨_, rfl⟩
    have B3 : Below w.heap.size w w3 := by rw [hw3]; exact B2.alloc B2.size _
    have s3 : w.heap.size < w3.heap.size := by rw [hw3]; simp; omega
    have e5 : w3.cell? ⟨w.heap.size, 5, none⟩ = some (.int .u32 sr) := by rw [hw3]; exact (World.cell?_alloc_past _ _ _ s2).trans e5
    have e6 : w3.cell? ⟨w.heap.size, 6, none⟩ = some (.int .u32 ds) := by rw [hw3]; exact (World.cell?_alloc_past _ _ _ s2).trans e6
    have e7 : w3.cell? ⟨w.heap.size, 7, none⟩ = some (.string o) := by rw [hw3]; exact (World.cell?_alloc_past _ _ _ s2).trans e7
    rw [← hw3]
    clear hw3 k3' B2 s2
    have d5 : ∀ q : Later w3.heap.size w3, q.u.cell? ⟨w.heap.size, 5, none⟩ = some (.int .u32 sr) := fun q => q.block s3 e5
    have d6 : ∀ q : Later w3.heap.size w3, q.u.cell? ⟨w.heap.size, 6, none⟩ = some (.int .u32 ds) := fun q => q.block s3 e6
    refine region_later (B := w3.heap.size) (by kernel_rfl) (by kernel_rfl) ?_
    repeat (go_big_quiet_step (first
      | (go_at_call 41; exact later_of _ (Nat.le_refl _) (k4 _))
      | (go_at_call_of 92 sr; exact later_of _ (Nat.le_refl _) (k5 _))
      | (go_at_call_of 92 ds; exact later_of _ (Nat.le_refl _) (k6 _))))
    refine later_end fun w4 b4 => ?_
    have e7 := ipKept_ b4 e7 s3
    have B4 := B3.trans (b4.mono B3.size)
    clear d5 d6 b4 B3 k4 k5 k6
    go_wp2
    go_ret
    rw [← HV2.out]
    exact ⟨rfl, B4⟩
  · have HV2 : Hid (strOfNums [69 + (o.size : Int) / 4, a] ++ strOfNums (wordL [size, id, 16384]) ++ strOfNums [tt, pr] ++ strOfNums (wordL [sum]) ++ strOfNums (wordL [sr / 65536, sr % 65536]) ++ strOfNums (wordL [ds / 65536, ds % 65536]) ++ o = hdrB a id true tt pr sr ds o size sum) := HV.out
    obtain ⟨u1, hu1⟩ : ∃ u, u = strOfNums [69 + (o.size : Int) / 4, a] := ⟨_, rfl⟩
    obtain ⟨u2, hu2⟩ : ∃ u, u = strOfNums (wordL [size, id, 16384]) := ⟨_, rfl⟩
    obtain ⟨u3, hu3⟩ : ∃ u, u = strOfNums [tt, pr] := ⟨_, rfl⟩
    obtain ⟨u4, hu4⟩ : ∃ u, u = strOfNums (wordL [sum]) := ⟨_, rfl⟩
    obtain ⟨u5, hu5⟩ : ∃ u, u = strOfNums (wordL [sr / 65536, sr % 65536]) := ⟨_, rfl⟩
    obtain ⟨u6, hu6⟩ : ∃ u, u = strOfNums (wordL [ds / 65536, ds % 65536]) := ⟨_, rfl⟩
    have z1 : u1.size = 2 := by rw [hu1, strOfNums_size]; rfl
    have z2 : u2.size = 6 := by rw [hu2, size_W]; rfl
    have z3 : u3.size = 2 := by rw [hu3, strOfNums_size]; rfl
    have z4 : u4.size = 2 := by rw [hu4, size_W]; rfl
    have z5 : u5.size = 4 := by rw [hu5, size_W]; rfl
    have z6 : u6.size = 4 := by rw [hu6, size_W]; rfl
    have q1 : u1.size + u2.size ≤ 9223372036854775807 := by omega
    have q2 : u1.size + u2.size + u3.size ≤ 9223372036854775807 := by omega
    have q3 : u1.size + u2.size + u3.size + u4.size ≤ 9223372036854775807 := by omega
    have q4 : u1.size + u2.size + u3.size + u4.size + u5.size ≤ 9223372036854775807 := by omega
    have q5 : u1.size + u2.size + u3.size + u4.size + u5.size + u6.size ≤ 9223372036854775807 := by omega
    have q6 : u1.size + u2.size + u3.size + u4.size + u5.size + u6.size + o.size ≤ 9223372036854775807 := by omega
    have k1 := conv2 (w.alloc (.cells #[.int .u8 a, .int .u16 id, .bool true, .int .u8 tt, .int .u8 pr, .int .u32 sr, .int .u32 ds, .string o] 50)) (w.heap.size + 1) (69 + (o.size : Int) / 4) a (by simp)
    rw [← hu1] at k1
    have c2 : ∀ u (b : Nat), b < u.heap.size → u.cell? ⟨b, 0, none⟩ = some (.int .u16 size) → u.cell? ⟨b, 1, none⟩ = some (.int .u16 id) → u.cell? ⟨b, 2, none⟩ = some (.int .u16 16384) → Calls Tryz.prog 91 #[.slice (some ⟨b, 0, none⟩) 3 3] u fun e w' => e = .returned (.string u2) ∧ Below u.heap.size u w' := by
      intro u b hb h0 h1 h2
      rw [hu2]
      exact rword_any _ 3 3 [size, id, 16384] u (row3 hb h0 h1 h2) (by omega) (by intro x hx; simp at hx; omega)
    have k3 := fun W => conv2 W W.heap.size tt pr rfl
    rw [← hu3] at k3
    have k4 : ∀ u, Calls Tryz.prog 41 #[.int .u16 sum] u fun e w' => e = .returned (.string u4) ∧ Below u.heap.size u w' := by rw [hu4]; exact fun u => rput16 sum u m0 m1
    have k5 : ∀ u, Calls Tryz.prog 92 #[.int .u32 sr] u fun e w' => e = .returned (.string u5) ∧ Below u.heap.size u w' := by rw [hu5]; exact fun u => rput32 sr u s0 s1
    have k6 : ∀ u, Calls Tryz.prog 92 #[.int .u32 ds] u fun e w' => e = .returned (.string u6) ∧ Below u.heap.size u w' := by rw [hu6]; exact fun u => rput32 ds u d0 d1
    rw [← hu1, ← hu2, ← hu3, ← hu4, ← hu5, ← hu6] at HV2
    have HZ := Lib.hid (And.intro z1 (And.intro z2 (And.intro z3 (And.intro z4 (And.intro z5 z6)))))
    clear hu1 hu2 hu3 hu4 hu5 hu6 HV z1 z2 z3 z4 z5 z6
    go_enter Tryz.func43, Tryz.ntmps43
    go_wp2_with fail
    refine (c2 _ _ (by simp) (by simp [go_sem]) (by simp [go_sem]) (by simp [go_sem])).mono ?_; rintro e w2 ⟨rfl, b2⟩
    have e3 : w2.cell? ⟨w.heap.size, 3, none⟩ = some (.int .u8 tt) := ipKept_ b2 (by simp [go_sem]) (by simp; omega)
    have e4 : w2.cell? ⟨w.heap.size, 4, none⟩ = some (.int .u8 pr) := ipKept_ b2 (by simp [go_sem]) (by simp; omega)
    have e5 : w2.cell? ⟨w.heap.size, 5, none⟩ = some (.int .u32 sr) := ipKept_ b2 (by simp [go_sem]) (by simp; omega)
    have e6 : w2.cell? ⟨w.heap.size, 6, none⟩ = some (.int .u32 ds) := ipKept_ b2 (by simp [go_sem]) (by simp; omega)
    have e7 : w2.cell? ⟨w.heap.size, 7, none⟩ = some (.string o) := ipKept_ b2 (by simp [go_sem]) (by simp; omega)
    have s2 : w.heap.size < w2.heap.size := by have := b2.size; simp at this; omega
    have B2 : Below w.heap.size w w2 := ((((Below.refl _ _).alloc (Nat.le_refl _) _).alloc (by simp) _).alloc (by simp; omega) _).trans (b2.mono (by simp; omega))
    clear b2 k1 c2
    have k3' := k3 w2
    clear k3
    go_wp2_with fail
    obtain ⟨w3, hw3⟩ : ∃ w3, w3 = w2.alloc (.cells #[.int .u8 tt, .int .u8 pr] 5) := ⟨_, rfl⟩
    have B3 : Below w.heap.size w w3 := by rw [hw3]; exact B2.alloc B2.size _
    have s3 : w.heap.size < w3.heap.size := by rw [hw3]; simp; omega
    have e5 : w3.cell? ⟨w.heap.size, 5, none⟩ = some (.int .u32 sr) := by rw [hw3]; exact (World.cell?_alloc_past _ _ _ s2).trans e5
    have e6 : w3.cell? ⟨w.heap.size, 6, none⟩ = some (.int .u32 ds) := by rw [hw3]; exact (World.cell?_alloc_past _ _ _ s2).trans e6
    have e7 : w3.cell? ⟨w.heap.size, 7, none⟩ = some (.string o) := by rw [hw3]; exact (World.cell?_alloc_past _ _ _ s2).trans e7
    rw [← hw3]
    clear hw3 k3' B2 s2
    have d5 : ∀ q : Later w3.heap.size w3, q.u.cell? ⟨w.heap.size, 5, none⟩ = some (.int .u32 sr) := fun q => q.block s3 e5
    have d6 : ∀ q : Later w3.heap.size w3, q.u.cell? ⟨w.heap.size, 6, none⟩ = some (.int .u32 ds) := fun q => q.block s3 e6
    refine region_later (B := w3.heap.size) (by kernel_rfl) (by kernel_rfl) ?_
    repeat (go_big_quiet_step (first
      | (go_at_call 41; exact later_of _ (Nat.le_refl _) (k4 _))
      | (go_at_call_of 92 sr; exact later_of _ (Nat.le_refl _) (k5 _))
      | (go_at_call_of 92 ds; exact later_of _ (Nat.le_refl _) (k6 _))))
    refine later_end fun w4 b4 => ?_
    have e7 := ipKept_ b4 e7 s3
    have B4 := B3.trans (b4.mono B3.size)
    clear d5 d6 b4 B3 k4 k5 k6
    go_wp2
    go_ret
    rw [← HV2.out]
    exact ⟨rfl, B4⟩
theorem hdrB_size (a id : Int) (fl : Bool) (tt pr sr ds : Int) (o : ByteArray) (size sum : Int) : (hdrB a id fl tt pr sr ds o size sum).size = 20 + o.size := by
  unfold hdrB
  rw [ByteArray.size_append, size_W]
  rfl
/-- Why a packet can't be put; 0: it can. -/
def putE (n m : Nat) : Int := if 40 < n ∨ ¬ n % 4 = 0 then 2 else if 2028 < n + m then 4 else 0
/-- A header with its sum. -/
def hdrS (a id : Int) (fl : Bool) (tt pr sr ds : Int) (o : ByteArray) (size : Int) : ByteArray := hdrB a id fl tt pr sr ds o size (sumV [hdrB a id fl tt pr sr ds o size 0])
def putB (a id : Int) (fl : Bool) (tt pr sr ds : Int) (o p : ByteArray) : ByteArray :=
  if putE o.size p.size = 0 then hdrS a id fl tt pr sr ds o (20 + (o.size : Int) + (p.size : Int)) ++ p else ⟨#[]⟩
theorem rput4_ (a id : Int) (fl : Bool) (tt pr sr ds : Int) (o p : ByteArray) (w : World) (a0 : 0 ≤ a) (a1 : a ≤ 255) (i0 : 0 ≤ id) (i1 : id ≤ 65535) (t0 : 0 ≤ tt) (t1 : tt ≤ 255) (p0 : 0 ≤ pr) (p1 : pr ≤ 255)
    (s0 : 0 ≤ sr) (s1 : sr ≤ 4294967295) (d0 : 0 ≤ ds) (d1 : ds ≤ 4294967295) (ho : o.size ≤ maxLen) (hp : p.size ≤ maxLen) :
    Cw_ 13 #[.agg #[.int .u8 a, .int .u16 id, .bool fl, .int .u8 tt, .int .u8 pr, .int .u32 sr, .int .u32 ds, .string o], .string p] (.tuple #[.string (putB a id fl tt pr sr ds o p), .int .i64 (putE o.size p.size)]) w := by
  unfold maxLen at ho hp
  have ho2 : (o.size : Int) ≤ 9223372036854775807 := by omega
  have hp2 : (p.size : Int) ≤ 9223372036854775807 := by omega
  by_cases h40 : 40 < o.size
  · have HE : Hid (putE o.size p.size = 2) := by show _ = _; unfold putE; rw [if_pos (.inl h40)]
    have HB : Hid (putB a id fl tt pr sr ds o p = ⟨#[]⟩) := by show _ = _; unfold putB; rw [HE.out]; rfl
    have e1 : decide (40 < o.size) = true := by simpa using h40
    have e2 : decide ((40 : Int) < (o.size : Int)) = true := by simp; omega
    clear h40
    go_enter Tryz.func13, Tryz.ntmps13
    go_wp2
    go_ret2
    rw [HE.out, HB.out]
    exact ⟨rfl, (Below.refl _ _).alloc (Nat.le_refl _) _⟩
  have e1 : decide (40 < o.size) = false := by simpa using h40
  have e2 : decide ((40 : Int) < (o.size : Int)) = false := by simp; omega
  by_cases h4 : o.size % 4 = 0
  rotate_left
  · have HE : Hid (putE o.size p.size = 2) := by show _ = _; unfold putE; rw [if_pos (.inr h4)]
    have HB : Hid (putB a id fl tt pr sr ds o p = ⟨#[]⟩) := by show _ = _; unfold putB; rw [HE.out]; rfl
    have e3 : decide ((0 : Int) < (o.size : Int) % 4) = true := by simp; omega
    have e4 : decide (0 < o.size % 4) = true := by simp; omega
    clear h40 h4
    go_enter Tryz.func13, Tryz.ntmps13
    go_wp2
    go_ret2
    rw [HE.out, HB.out]
    exact ⟨rfl, (Below.refl _ _).alloc (Nat.le_refl _) _⟩
  have e3 : decide ((0 : Int) < (o.size : Int) % 4) = false := by simp; omega
  have e4 : decide (0 < o.size % 4) = false := by simp; omega
  have e5 : (o.size : Int) % 4 = 0 := by omega
  by_cases hm : 2028 < o.size + p.size
  · have HE : Hid (putE o.size p.size = 4) := by show _ = _; unfold putE; rw [if_neg (by omega), if_pos hm]
    have HB : Hid (putB a id fl tt pr sr ds o p = ⟨#[]⟩) := by show _ = _; unfold putB; rw [HE.out]; rfl
    have e6 : decide (2028 - (o.size : Int) < (p.size : Int)) = true := by simp; omega
    clear hm h4
    go_enter Tryz.func13, Tryz.ntmps13
    go_wp2
    go_ret2
    rw [HE.out, HB.out]
    exact ⟨rfl, (Below.refl _ _).alloc (Nat.le_refl _) _⟩
  have HE : Hid (putE o.size p.size = 0) := by show _ = _; unfold putE; rw [if_neg (by omega), if_neg hm]
  obtain ⟨z, hz⟩ : ∃ z : Int, z = 20 + (o.size : Int) + (p.size : Int) := ⟨_, rfl⟩
  have HB : Hid (putB a id fl tt pr sr ds o p = hdrS a id fl tt pr sr ds o z ++ p) := by show _ = _; unfold putB; rw [HE.out, if_pos rfl, hz]
  have e6 : decide (2028 - (o.size : Int) < (p.size : Int)) = false := by simp; omega
  have hz0 : 0 ≤ z := by omega
  have hz1 : z ≤ 65535 := by omega
  have c1 := fun u => rbytes_ a id fl tt pr sr ds o z 0 u a0 a1 i0 i1 t0 t1 p0 p1 s0 s1 d0 d1 (by omega) hz0 hz1 (by omega) (by omega)
  have hsm := sumV_bd [hdrB a id fl tt pr sr ds o z 0]
  have c3 := fun u => rbytes_ a id fl tt pr sr ds o z (sumV [hdrB a id fl tt pr sr ds o z 0]) u a0 a1 i0 i1 t0 t1 p0 p1 s0 s1 d0 d1 (by omega) hz0 hz1 hsm.1 hsm.2
  have hs1 := hdrB_size a id fl tt pr sr ds o z 0
  have hs2 := hdrB_size a id fl tt pr sr ds o z (sumV [hdrB a id fl tt pr sr ds o z 0])
  have HS2 : Hid (hdrS a id fl tt pr sr ds o z = hdrB a id fl tt pr sr ds o z (sumV [hdrB a id fl tt pr sr ds o z 0])) := rfl
  obtain ⟨H2, hH2⟩ : ∃ h, h = hdrB a id fl tt pr sr ds o z (sumV [hdrB a id fl tt pr sr ds o z 0]) := ⟨_, rfl⟩
  rw [← hH2] at c3 hs2 HS2
  clear hH2
  obtain ⟨H1, hH1⟩ : ∃ h, h = hdrB a id fl tt pr sr ds o z 0 := ⟨_, rfl⟩
  rw [← hH1] at c1 hs1 hsm c3
  clear hH1
  have c2 : ∀ (u : World) (b : Nat), b < u.heap.size → u.cell? ⟨b, 0, none⟩ = some (.string H1) → Calls Tryz.prog 42 #[.slice (some ⟨b, 0, none⟩) 1 1] u fun e w' => e = .returned (.int .u16 (sumV [H1])) ∧ u = w' :=
    fun u b hb h0 => rsum_ _ 1 1 [H1] u (rowS1 hb h0 (by unfold maxLen; omega)) (by intro s hs; simp at hs; subst hs; unfold maxLen; omega)
  generalize sumV [H1] = sm at *
  have q1 : H2.size + p.size ≤ 9223372036854775807 := by omega
  have x1 : 20 + (o.size : Int) + (p.size : Int) = z := hz.symm
  have HZ := Lib.hid hs1
  have HZ2 := Lib.hid hs2
  clear hz hm h4 h40 hs1 hs2
  go_enter Tryz.func13, Tryz.ntmps13
  go_wp2_with fail
  refine (c1 _).mono ?_; rintro e w2 ⟨rfl, b2⟩
  have g0 : w2.cell? ⟨w.heap.size, 0, none⟩ = some (.int .u8 a) := ipKept_ b2 (by simp [go_sem]) (by simp)
  have g1 : w2.cell? ⟨w.heap.size, 1, none⟩ = some (.int .u16 id) := ipKept_ b2 (by simp [go_sem]) (by simp)
  have g2 : w2.cell? ⟨w.heap.size, 2, none⟩ = some (.bool fl) := ipKept_ b2 (by simp [go_sem]) (by simp)
  have g3 : w2.cell? ⟨w.heap.size, 3, none⟩ = some (.int .u8 tt) := ipKept_ b2 (by simp [go_sem]) (by simp)
  have g4 : w2.cell? ⟨w.heap.size, 4, none⟩ = some (.int .u8 pr) := ipKept_ b2 (by simp [go_sem]) (by simp)
  have g5 : w2.cell? ⟨w.heap.size, 5, none⟩ = some (.int .u32 sr) := ipKept_ b2 (by simp [go_sem]) (by simp)
  have g6 : w2.cell? ⟨w.heap.size, 6, none⟩ = some (.int .u32 ds) := ipKept_ b2 (by simp [go_sem]) (by simp)
  have g7 : w2.cell? ⟨w.heap.size, 7, none⟩ = some (.string o) := ipKept_ b2 (by simp [go_sem]) (by simp)
  have u2 : w.heap.size < w2.heap.size := by have := b2.size; simp at this; omega
  have B2 : Below w.heap.size w w2 := ((Below.refl _ _).alloc (Nat.le_refl _) _).trans (b2.mono (by simp))
  clear b2
  go_wp2_with fail
  refine (c2 _ _ (by simp) (by simp [go_sem])).mono ?_; rintro e w3 ⟨rfl, rfl⟩
  go_wp2_with fail
  refine (c3 _).mono ?_; rintro e w4 ⟨rfl, b4⟩
  have B4 : Below w.heap.size w w4 := (B2.alloc B2.size _).trans (b4.mono (by simp; omega))
  clear g0 g1 g2 g3 g4 g5 g6 g7 b4 B2
  go_wp2
  go_ret2
  rw [HE.out, HB.out, HS2.out]
  exact ⟨rfl, B4⟩
end Go.Proofs.YtbpicngbjggblaaGreatDoor
namespace Go.Proofs.YtbpicngbjggblaaGreatDoor
set_option maxHeartbeats 4000000
set_option maxRecDepth 100000
set_option linter.unusedVariables false
set_option linter.unusedSimpArgs false
open Go.ChangeShapes Go.WideShapes Go.ChangeAt Go.RowKit Go.PlainAid
attribute [local go_sem ↓] Go.wp_at_zero Go.wp_at_succ
/-- How many bytes a header says that it has. -/
def ownN (s : ByteArray) : Nat := (bt s 0 % 16).toNat * 4
/-- Why a packet is not taken; 0: it is. -/
def pR (s : ByteArray) : Int :=
  if s.size < 20 then 1 else if ¬ bt s 0 / 16 = 4 then 2
  else if ownN s < 20 ∨ s.size < ownN s ∨ g16 s 2 < (ownN s : Int) ∨ (s.size : Int) < g16 s 2 ∨ 2048 < g16 s 2 then 3
  else if holdsV [s.extract 0 (ownN s)] = false then 4 else if ¬ g16 s 6 = 0 ∧ ¬ g16 s 6 = 16384 then 5 else 0
def pI (s : ByteArray) (v : Int) : Int := if pR s = 0 then v else 0
def pF (s : ByteArray) : Bool := if pR s = 0 then decide (0 < g16 s 6) else false
def pO (s : ByteArray) : ByteArray := if pR s = 0 then s.extract 20 (ownN s) else ⟨#[]⟩
def pP (s : ByteArray) : ByteArray := if pR s = 0 then s.extract (ownN s) (g16 s 2).toNat else ⟨#[]⟩
theorem p_no {s : ByteArray} (h : ¬ pR s = 0) : (∀ v, pI s v = 0) ∧ pF s = false ∧ pO s = ⟨#[]⟩ ∧ pP s = ⟨#[]⟩ := by
  unfold pI pF pO pP
  simp [h]
theorem p_yes {s : ByteArray} (h : pR s = 0) : (∀ v, pI s v = v) ∧ pF s = decide (0 < g16 s 6) ∧ pO s = s.extract 20 (ownN s) ∧ pP s = s.extract (ownN s) (g16 s 2).toNat := by
  unfold pI pF pO pP
  simp [h]
theorem bcell4_ {W w1 : World} (hb : Below W.heap.size W w1) : (∀ b o, b < W.heap.size → w1.cell? ⟨b, o, none⟩ = W.cell? ⟨b, o, none⟩) ∧ (∀ b o, b < W.heap.size → w1.frozen? ⟨b, o, none⟩ = W.frozen? ⟨b, o, none⟩) :=
  ⟨fun b o h => hb.cell (p := ⟨b, o, none⟩) h, fun b o h => hb.frozen (p := ⟨b, o, none⟩) h⟩
/-- A box of eight cells that is written whole. -/
theorem box8_ {W0 W : World} {b n : Nat} {v0 v1 v2 v3 v4 v5 v6 v7 : Value} {M : World → Prop} (h : ∀ j, j < 8 → (W.cell? ⟨b, j, none⟩).isSome = true) (hb : Below n W0 W) (hn : n ≤ b)
    (k : ∀ X : World, X.cell? ⟨b, 0, none⟩ = some v0 → X.cell? ⟨b, 1, none⟩ = some v1 → X.cell? ⟨b, 2, none⟩ = some v2 → X.cell? ⟨b, 3, none⟩ = some v3 → X.cell? ⟨b, 4, none⟩ = some v4 → X.cell? ⟨b, 5, none⟩ = some v5 → X.cell? ⟨b, 6, none⟩ = some v6 → X.cell? ⟨b, 7, none⟩ = some v7 → Below n W0 X → (∀ a : Addr, ¬ b = a.block → X.cell? a = W.cell? a) → M X) :
    M ((((((((W.setCell ⟨b, 0, none⟩ v0).setCell ⟨b, 1, none⟩ v1).setCell ⟨b, 2, none⟩ v2).setCell ⟨b, 3, none⟩ v3).setCell ⟨b, 4, none⟩ v4).setCell ⟨b, 5, none⟩ v5).setCell ⟨b, 6, none⟩ v6).setCell ⟨b, 7, none⟩ v7) := by
  have c := World.cell?_setCells_in b [v0, v1, v2, v3, v4, v5, v6, v7] 0 W (by intro j hj; rw [Nat.zero_add]; exact h j hj)
  refine k _ (c 0 (by simp)) (c 1 (by simp)) (c 2 (by simp)) (c 3 (by simp)) (c 4 (by simp)) (c 5 (by simp)) (c 6 (by simp)) (c 7 (by simp)) ?_ ?_
  rotate_left
  · intro a ha
    rw [World.cell?_setCell_far _ _ _ _ ha, World.cell?_setCell_far _ _ _ _ ha, World.cell?_setCell_far _ _ _ _ ha, World.cell?_setCell_far _ _ _ _ ha, World.cell?_setCell_far _ _ _ _ ha, World.cell?_setCell_far _ _ _ _ ha, World.cell?_setCell_far _ _ _ _ ha, World.cell?_setCell_far _ _ _ _ ha]
  exact (((((((hb.setCell hn _).setCell hn _).setCell hn _).setCell hn _).setCell hn _).setCell hn _).setCell hn _).setCell hn _
theorem box8d_ {W0 W : World} {b n : Nat} {v0 v1 v2 v3 v4 v5 v6 v7 : Value} {M : World → Prop} (h : ∀ j, j < 8 → (W.cell? ⟨b, j, none⟩).isSome = true) (hb : Below n W0 W) (hn : n ≤ b)
    (k : ∀ X : World, X.cell? ⟨b, 0, none⟩ = some v0 → X.cell? ⟨b, 1, none⟩ = some v1 → X.cell? ⟨b, 2, none⟩ = some v2 → X.cell? ⟨b, 3, none⟩ = some v3 → X.cell? ⟨b, 4, none⟩ = some v4 → X.cell? ⟨b, 5, none⟩ = some v5 → X.cell? ⟨b, 6, none⟩ = some v6 → X.cell? ⟨b, 7, none⟩ = some v7 → Below n W0 X → (∀ a : Addr, ¬ b = a.block → X.cell? a = W.cell? a) → M X) :
    M ((((((((W.setCell ⟨b, 0, none⟩ v0).setCell ⟨b, 1, none⟩ v1).setCell ⟨b, 2, none⟩ v2).setCell ⟨b, 3, none⟩ v3).setCell ⟨b, 4, none⟩ v4).setCell ⟨b, 5, none⟩ v5).setCell ⟨b, 6, none⟩ v6).setCell ⟨b, 7, none⟩ v7).drew := by
  refine box8_ (M := fun X => M X.drew) h hb hn fun X x0 x1 x2 x3 x4 x5 x6 x7 B f => ?_
  exact k X.drew x0 x1 x2 x3 x4 x5 x6 x7 B.drew f
theorem box8_is {W w1 : World} {b : Nat} {v0 v1 v2 v3 v4 v5 v6 v7 : Value} {t : TypeId} (hb : b = W.heap.size) (hc : ∀ b o, b < (W.alloc (.cells #[v0, v1, v2, v3, v4, v5, v6, v7] t)).heap.size → w1.cell? ⟨b, o, none⟩ = (W.alloc (.cells #[v0, v1, v2, v3, v4, v5, v6, v7] t)).cell? ⟨b, o, none⟩) : ∀ j, j < 8 → (w1.cell? ⟨b, j, none⟩).isSome = true := by
  subst hb
  intro j hj
  rw [hc _ _ (by simp)]
  match j, hj with
  | 0, _ => simp [go_sem]
  | 1, _ => simp [go_sem]
  | 2, _ => simp [go_sem]
  | 3, _ => simp [go_sem]
  | 4, _ => simp [go_sem]
  | 5, _ => simp [go_sem]
  | 6, _ => simp [go_sem]
  | 7, _ => simp [go_sem]
theorem new8_ {W : World} {v0 v1 v2 v3 v4 v5 v6 v7 : Value} {t : TypeId} {M : World → Prop}
    (k : ∀ X : World, X.cell? ⟨W.heap.size, 0, none⟩ = some v0 → X.cell? ⟨W.heap.size, 1, none⟩ = some v1 → X.cell? ⟨W.heap.size, 2, none⟩ = some v2 → X.cell? ⟨W.heap.size, 3, none⟩ = some v3 → X.cell? ⟨W.heap.size, 4, none⟩ = some v4 → X.cell? ⟨W.heap.size, 5, none⟩ = some v5 → X.cell? ⟨W.heap.size, 6, none⟩ = some v6 → X.cell? ⟨W.heap.size, 7, none⟩ = some v7 → Below W.heap.size W X → W.heap.size < X.heap.size → M X) :
    M (W.alloc (.cells #[v0, v1, v2, v3, v4, v5, v6, v7] t)).drew :=
  k _ (by simp [go_sem]) (by simp [go_sem]) (by simp [go_sem]) (by simp [go_sem]) (by simp [go_sem]) (by simp [go_sem]) (by simp [go_sem]) (by simp [go_sem]) ((Below.refl _ _).alloc (Nat.le_refl _) _).drew (by simp)
theorem rparse4_ (s : ByteArray) (w : World) (hs : s.size < maxLen) :
    Cw_ 69 #[.string s] (.tuple #[.agg #[.int .u8 (pI s (bt s 1)), .int .u16 (pI s (g16 s 4)), .bool (pF s), .int .u8 (pI s (bt s 8)), .int .u8 (pI s (bt s 9)), .int .u32 (pI s (g32 s 12)), .int .u32 (pI s (g32 s 16)), .string (pO s)], .string (pP s), .int .i64 (pR s)]) w := by
  have hs' := hs
  unfold maxLen at hs
  have hs2 : (s.size : Int) ≤ 9223372036854775807 := by omega
  have hb := get_bt s
  have b0 := bt_nonneg s 0
  have b1 := bt_le s 0
  have hno : ∀ r : Int, ¬ r = 0 → pR s = r → Hid ((∀ v, pI s v = 0) ∧ pF s = false ∧ pO s = ⟨#[]⟩ ∧ pP s = ⟨#[]⟩ ∧ pR s = r) := by
    intro r h0 h
    obtain ⟨h1, h2, h3, h4⟩ := p_no (s := s) (by rw [h]; exact h0)
    exact ⟨h1, h2, h3, h4, h⟩
  by_cases h20 : s.size < 20
  · have HN := hno 1 (by omega) (by unfold pR; rw [if_pos h20])
    have e1 : decide (s.size < 20) = true := by simpa using h20
    have e2 : decide ((s.size : Int) < 20) = true := by simp; omega
    clear hno
    go_enter Tryz.func69, Tryz.ntmps69
    go_wp2
    refine bodyPost_ret (v := .tuple #[.agg #[.int .u8 0, .int .u16 0, .bool false, .int .u8 0, .int .u8 0, .int .u32 0, .int .u32 0, .string ⟨#[]⟩], .string ⟨#[]⟩, .int .i64 1]) (by simp [results, Tryz.results69, go_sem]) rfl ?_
    rw [HN.out.1, HN.out.1, HN.out.1, HN.out.1, HN.out.1, HN.out.1, HN.out.2.1, HN.out.2.2.1, HN.out.2.2.2.1, HN.out.2.2.2.2]
    exact ⟨rfl, (Below.refl _ _).alloc (Nat.le_refl _) _⟩
  have e1 : decide (s.size < 20) = false := by simpa using h20
  have e2 : decide ((s.size : Int) < 20) = false := by simp; omega
  have i0 : (0 : Int) < (s.size : Int) := by omega
  by_cases hv : bt s 0 / 16 = 4
  rotate_left
  · have HN := hno 2 (by omega) (by unfold pR; rw [if_neg h20, if_pos hv])
    have e3 : (bt s 0 / 16 == 4) = false := by simpa using hv
    clear hno
    go_enter Tryz.func69, Tryz.ntmps69
    go_wp2
    refine bodyPost_ret (v := .tuple #[.agg #[.int .u8 0, .int .u16 0, .bool false, .int .u8 0, .int .u8 0, .int .u32 0, .int .u32 0, .string ⟨#[]⟩], .string ⟨#[]⟩, .int .i64 2]) (by simp [results, Tryz.results69, go_sem]) rfl ?_
    rw [HN.out.1, HN.out.1, HN.out.1, HN.out.1, HN.out.1, HN.out.1, HN.out.2.1, HN.out.2.2.1, HN.out.2.2.2.1, HN.out.2.2.2.2]
    exact ⟨rfl, (Below.refl _ _).alloc (Nat.le_refl _) _⟩
  have e3 : (bt s 0 / 16 == 4) = true := by simpa using hv
  obtain ⟨n, hn⟩ : ∃ n, n = ownN s := ⟨_, rfl⟩
  have e4 : bt s 0 % 16 * 4 = (n : Int) := by rw [hn]; unfold ownN; omega
  have n60 : n ≤ 60 := by omega
  have z0 := g16_nonneg s 2
  have z1 := g16_le s 2
  obtain ⟨m, hm⟩ : ∃ m : Nat, g16 s 2 = (m : Int) := ⟨(g16 s 2).toNat, by omega⟩
  rw [hm] at z0 z1
  have cn : ∀ (B : Nat) (u : World) (k : Nat), k + 2 ≤ s.size → ∀ (x : Later B u), Calls Tryz.prog 120 #[.string s, .int .i64 (k : Int)] x.u fun e w'' => e = .returned (.int .i64 (g16 s k)) ∧ ∃ y : Later B u, w'' = y.u := fun B u k hk x => later_same x (number4_ s k _ (by unfold maxLen; omega) hk)
  have cn2 : ∀ (B : Nat) (u : World) (x : Later B u), Calls Tryz.prog 120 #[.string s, .int .i64 2] x.u fun e w'' => e = .returned (.int .i64 (m : Int)) ∧ ∃ y : Later B u, w'' = y.u := fun B u x => by rw [← hm]; exact cn B u 2 (by omega) x
  have hR : pR s = if n < 20 ∨ s.size < n ∨ m < n ∨ s.size < m ∨ 2048 < m then 3
      else if holdsV [s.extract 0 n] = false then 4 else if ¬ g16 s 6 = 0 ∧ ¬ g16 s 6 = 16384 then 5 else 0 := by
    unfold pR; rw [if_neg h20, if_neg (not_not_intro hv), ← hn, hm]; simp only [Int.ofNat_lt, show ((2048 : Int) < (m : Int)) ↔ 2048 < m by omega]
  by_cases c0 : n < 20
  · have HN := hno 3 (by omega) (by rw [hR, if_pos (by omega)])
    have q00 : decide (n < 20) = true := by simp; omega
    have q01 : decide ((n : Int) < 20) = true := by simp; omega
    clear hno hR hn hm
    go_enter Tryz.func69, Tryz.ntmps69
    go_wp2_with fail
    obtain ⟨w1, hw1⟩ : ∃ w1, w1 = w.alloc (.cells #[.int .u8 0, .int .u16 0, .bool false, .int .u8 0, .int .u8 0, .int .u32 0, .int .u32 0, .string ⟨#[]⟩] 50) := ⟨_, rfl⟩
    rw [← hw1]
    refine region_later (B := w1.heap.size) (by kernel_rfl) (by kernel_rfl) ?_
    repeat (go_big_quiet_step (first | (go_at_call 120; exact cn2 _ _ _)))
    refine later_end fun w2 b2 => ?_
    subst hw1
    obtain ⟨hc, hf⟩ := bcell4_ b2
    have hz : w.heap.size < w2.heap.size := by have := b2.size; simp at this; omega
    have B2 : Below w.heap.size w w2 := ((Below.refl _ _).alloc (Nat.le_refl _) _).trans (b2.mono (by simp))
    have hz2 := B2.size
    go_wp2
    refine box8_ (b := w.heap.size) (box8_is rfl hc) B2 (Nat.le_refl _) fun w9 x0 x1 x2 x3 x4 x5 x6 x7 B9 _ => ?_
    clear hc hf b2 B2
    refine bodyPost_ret (v := .tuple #[.agg #[.int .u8 0, .int .u16 0, .bool false, .int .u8 0, .int .u8 0, .int .u32 0, .int .u32 0, .string ⟨#[]⟩], .string ⟨#[]⟩, .int .i64 3]) (by simp [results, Tryz.results69, go_sem, x0, x1, x2, x3, x4, x5, x6, x7]) rfl ?_
    rw [HN.out.1, HN.out.1, HN.out.1, HN.out.1, HN.out.1, HN.out.1, HN.out.2.1, HN.out.2.2.1, HN.out.2.2.2.1, HN.out.2.2.2.2]
    exact ⟨rfl, B9⟩
  have q00 : decide (n < 20) = false := by simp; omega
  have q01 : decide ((n : Int) < 20) = false := by simp; omega
  by_cases c1 : s.size < n
  · have HN := hno 3 (by omega) (by rw [hR, if_pos (by omega)])
    have q10 : decide (s.size < n) = true := by simp; omega
    clear hno hR hn hm
    go_enter Tryz.func69, Tryz.ntmps69
    go_wp2_with fail
    obtain ⟨w1, hw1⟩ : ∃ w1, w1 = w.alloc (.cells #[.int .u8 0, .int .u16 0, .bool false, .int .u8 0, .int .u8 0, .int .u32 0, .int .u32 0, .string ⟨#[]⟩] 50) := ⟨_, rfl⟩
    rw [← hw1]
    refine region_later (B := w1.heap.size) (by kernel_rfl) (by kernel_rfl) ?_
    repeat (go_big_quiet_step (first | (go_at_call 120; exact cn2 _ _ _)))
    refine later_end fun w2 b2 => ?_
    subst hw1
    obtain ⟨hc, hf⟩ := bcell4_ b2
    have hz : w.heap.size < w2.heap.size := by have := b2.size; simp at this; omega
    have B2 : Below w.heap.size w w2 := ((Below.refl _ _).alloc (Nat.le_refl _) _).trans (b2.mono (by simp))
    have hz2 := B2.size
    go_wp2
    refine box8_ (b := w.heap.size) (box8_is rfl hc) B2 (Nat.le_refl _) fun w9 x0 x1 x2 x3 x4 x5 x6 x7 B9 _ => ?_
    clear hc hf b2 B2
    refine bodyPost_ret (v := .tuple #[.agg #[.int .u8 0, .int .u16 0, .bool false, .int .u8 0, .int .u8 0, .int .u32 0, .int .u32 0, .string ⟨#[]⟩], .string ⟨#[]⟩, .int .i64 3]) (by simp [results, Tryz.results69, go_sem, x0, x1, x2, x3, x4, x5, x6, x7]) rfl ?_
    rw [HN.out.1, HN.out.1, HN.out.1, HN.out.1, HN.out.1, HN.out.1, HN.out.2.1, HN.out.2.2.1, HN.out.2.2.2.1, HN.out.2.2.2.2]
    exact ⟨rfl, B9⟩
  have q10 : decide (s.size < n) = false := by simp; omega
  by_cases c2 : m < n
  · have HN := hno 3 (by omega) (by rw [hR, if_pos (by omega)])
    have q20 : decide (m < n) = true := by simp; omega
    clear hno hR hn hm
    go_enter Tryz.func69, Tryz.ntmps69
    go_wp2_with fail
    obtain ⟨w1, hw1⟩ : ∃ w1, w1 = w.alloc (.cells #[.int .u8 0, .int .u16 0, .bool false, .int .u8 0, .int .u8 0, .int .u32 0, .int .u32 0, .string ⟨#[]⟩] 50) := ⟨_, rfl⟩
    rw [← hw1]
    refine region_later (B := w1.heap.size) (by kernel_rfl) (by kernel_rfl) ?_
    repeat (go_big_quiet_step (first | (go_at_call 120; exact cn2 _ _ _)))
    refine later_end fun w2 b2 => ?_
    subst hw1
    obtain ⟨hc, hf⟩ := bcell4_ b2
    have hz : w.heap.size < w2.heap.size := by have := b2.size; simp at this; omega
    have B2 : Below w.heap.size w w2 := ((Below.refl _ _).alloc (Nat.le_refl _) _).trans (b2.mono (by simp))
    have hz2 := B2.size
    go_wp2
    refine box8_ (b := w.heap.size) (box8_is rfl hc) B2 (Nat.le_refl _) fun w9 x0 x1 x2 x3 x4 x5 x6 x7 B9 _ => ?_
    clear hc hf b2 B2
    refine bodyPost_ret (v := .tuple #[.agg #[.int .u8 0, .int .u16 0, .bool false, .int .u8 0, .int .u8 0, .int .u32 0, .int .u32 0, .string ⟨#[]⟩], .string ⟨#[]⟩, .int .i64 3]) (by simp [results, Tryz.results69, go_sem, x0, x1, x2, x3, x4, x5, x6, x7]) rfl ?_
    rw [HN.out.1, HN.out.1, HN.out.1, HN.out.1, HN.out.1, HN.out.1, HN.out.2.1, HN.out.2.2.1, HN.out.2.2.2.1, HN.out.2.2.2.2]
    exact ⟨rfl, B9⟩
  have q20 : decide (m < n) = false := by simp; omega
  by_cases c3 : s.size < m
  · have HN := hno 3 (by omega) (by rw [hR, if_pos (by omega)])
    have q30 : decide (s.size < m) = true := by simp; omega
    clear hno hR hn hm
    go_enter Tryz.func69, Tryz.ntmps69
    go_wp2_with fail
    obtain ⟨w1, hw1⟩ : ∃ w1, w1 = w.alloc (.cells #[.int .u8 0, .int .u16 0, .bool false, .int .u8 0, .int .u8 0, .int .u32 0, .int .u32 0, .string ⟨#[]⟩] 50) := ⟨_, rfl⟩
    rw [← hw1]
    refine region_later (B := w1.heap.size) (by kernel_rfl) (by kernel_rfl) ?_
    repeat (go_big_quiet_step (first | (go_at_call 120; exact cn2 _ _ _)))
    refine later_end fun w2 b2 => ?_
    subst hw1
    obtain ⟨hc, hf⟩ := bcell4_ b2
    have hz : w.heap.size < w2.heap.size := by have := b2.size; simp at this; omega
    have B2 : Below w.heap.size w w2 := ((Below.refl _ _).alloc (Nat.le_refl _) _).trans (b2.mono (by simp))
    have hz2 := B2.size
    go_wp2
    refine box8_ (b := w.heap.size) (box8_is rfl hc) B2 (Nat.le_refl _) fun w9 x0 x1 x2 x3 x4 x5 x6 x7 B9 _ => ?_
    clear hc hf b2 B2
    refine bodyPost_ret (v := .tuple #[.agg #[.int .u8 0, .int .u16 0, .bool false, .int .u8 0, .int .u8 0, .int .u32 0, .int .u32 0, .string ⟨#[]⟩], .string ⟨#[]⟩, .int .i64 3]) (by simp [results, Tryz.results69, go_sem, x0, x1, x2, x3, x4, x5, x6, x7]) rfl ?_
    rw [HN.out.1, HN.out.1, HN.out.1, HN.out.1, HN.out.1, HN.out.1, HN.out.2.1, HN.out.2.2.1, HN.out.2.2.2.1, HN.out.2.2.2.2]
    exact ⟨rfl, B9⟩
  have q30 : decide (s.size < m) = false := by simp; omega
  by_cases c4 : 2048 < m
  · have HN := hno 3 (by omega) (by rw [hR, if_pos (by omega)])
    have q40 : decide (2048 < m) = true := by simp; omega
    have q41 : decide ((2048 : Int) < (m : Int)) = true := by simp; omega
    clear hno hR hn hm
    go_enter Tryz.func69, Tryz.ntmps69
    go_wp2_with fail
    obtain ⟨w1, hw1⟩ : ∃ w1, w1 = w.alloc (.cells #[.int .u8 0, .int .u16 0, .bool false, .int .u8 0, .int .u8 0, .int .u32 0, .int .u32 0, .string ⟨#[]⟩] 50) := ⟨_, rfl⟩
    rw [← hw1]
    refine region_later (B := w1.heap.size) (by kernel_rfl) (by kernel_rfl) ?_
    repeat (go_big_quiet_step (first | (go_at_call 120; exact cn2 _ _ _)))
    refine later_end fun w2 b2 => ?_
    subst hw1
    obtain ⟨hc, hf⟩ := bcell4_ b2
    have hz : w.heap.size < w2.heap.size := by have := b2.size; simp at this; omega
    have B2 : Below w.heap.size w w2 := ((Below.refl _ _).alloc (Nat.le_refl _) _).trans (b2.mono (by simp))
    have hz2 := B2.size
    go_wp2
    refine box8_ (b := w.heap.size) (box8_is rfl hc) B2 (Nat.le_refl _) fun w9 x0 x1 x2 x3 x4 x5 x6 x7 B9 _ => ?_
    clear hc hf b2 B2
    refine bodyPost_ret (v := .tuple #[.agg #[.int .u8 0, .int .u16 0, .bool false, .int .u8 0, .int .u8 0, .int .u32 0, .int .u32 0, .string ⟨#[]⟩], .string ⟨#[]⟩, .int .i64 3]) (by simp [results, Tryz.results69, go_sem, x0, x1, x2, x3, x4, x5, x6, x7]) rfl ?_
    rw [HN.out.1, HN.out.1, HN.out.1, HN.out.1, HN.out.1, HN.out.1, HN.out.2.1, HN.out.2.2.1, HN.out.2.2.2.1, HN.out.2.2.2.2]
    exact ⟨rfl, B9⟩
  have q40 : decide (2048 < m) = false := by simp; omega
  have q41 : decide ((2048 : Int) < (m : Int)) = false := by simp; omega
  have u0 : n ≤ s.size := by omega
  have u1 : (n : Int) ≤ (s.size : Int) := by omega
  have hsz : (s.extract 0 n).size = n := by rw [ByteArray.size_extract]; omega
  have ch : ∀ (u : World) (b : Nat), b < u.heap.size → u.cell? ⟨b, 0, none⟩ = some (.string (s.extract 0 n)) → Calls Tryz.prog 121 #[.slice (some ⟨b, 0, none⟩) 1 1] u fun e w' => e = .returned (.bool (holdsV [s.extract 0 n])) ∧ u = w' :=
    fun u b hb h0 => rholds_ _ 1 1 [s.extract 0 n] u (rowS1 hb h0 (by unfold maxLen; omega)) (by intro x hx; simp at hx; subst hx; unfold maxLen; omega)
  rw [if_neg (by omega)] at hR
  obtain ⟨hv4, hhv⟩ : ∃ b, b = holdsV [s.extract 0 n] := ⟨_, rfl⟩
  rw [← hhv] at ch hR
  obtain ⟨X, hX⟩ : ∃ X, X = s.extract 0 n := ⟨_, rfl⟩
  rw [← hX] at ch
  have HX := Lib.hid hsz
  clear hsz
  cases hv4
  · have HN := hno 4 (by omega) (by rw [hR, if_pos rfl])
    have hX' := hX.symm
    clear hno hR hn hm hhv hX
    go_enter Tryz.func69, Tryz.ntmps69
    go_wp2_with fail
    obtain ⟨w1, hw1⟩ : ∃ w1, w1 = w.alloc (.cells #[.int .u8 0, .int .u16 0, .bool false, .int .u8 0, .int .u8 0, .int .u32 0, .int .u32 0, .string ⟨#[]⟩] 50) := ⟨_, rfl⟩
    rw [← hw1]
    refine region_later (B := w1.heap.size) (by kernel_rfl) (by kernel_rfl) ?_
    repeat (go_big_quiet_step (first | (go_at_call 120; exact cn2 _ _ _)))
    refine later_end fun w2 b2 => ?_
    subst hw1
    obtain ⟨hc, hf⟩ := bcell4_ b2
    have hz : w.heap.size < w2.heap.size := by have := b2.size; simp at this; omega
    have B2 : Below w.heap.size w w2 := ((Below.refl _ _).alloc (Nat.le_refl _) _).trans (b2.mono (by simp))
    have hz2 := B2.size
    go_wp2_with fail
    refine (ch _ _ (by simp) (by simp [go_sem])).mono ?_; rintro e w3 ⟨rfl, rfl⟩
    obtain ⟨w3, hw3⟩ : ∃ w3, w3 = w2.alloc (.cells #[.string X] 9) := ⟨_, rfl⟩
    have hs3 : w.heap.size < w3.heap.size := by rw [hw3]; simp; omega
    have B3 : Below w.heap.size w w3 := by rw [hw3]; exact B2.alloc hz2 _
    have b3 : Below (w.alloc (.cells #[.int .u8 0, .int .u16 0, .bool false, .int .u8 0, .int .u8 0, .int .u32 0, .int .u32 0, .string ⟨#[]⟩] 50)).heap.size (w.alloc (.cells #[.int .u8 0, .int .u16 0, .bool false, .int .u8 0, .int .u8 0, .int .u32 0, .int .u32 0, .string ⟨#[]⟩] 50)) w3 := by rw [hw3]; exact b2.alloc b2.size _
    clear hc hf b2
    obtain ⟨hc, hf⟩ := bcell4_ b3
    rw [← hw3]
    clear hw3 B2 ch hz hz2
    go_wp2
    refine box8_ (b := w.heap.size) (box8_is rfl hc) B3 (Nat.le_refl _) fun w9 x0 x1 x2 x3 x4 x5 x6 x7 B9 _ => ?_
    clear hc hf b3 B3
    refine bodyPost_ret (v := .tuple #[.agg #[.int .u8 0, .int .u16 0, .bool false, .int .u8 0, .int .u8 0, .int .u32 0, .int .u32 0, .string ⟨#[]⟩], .string ⟨#[]⟩, .int .i64 4]) (by simp [results, Tryz.results69, go_sem, x0, x1, x2, x3, x4, x5, x6, x7]) rfl ?_
    rw [HN.out.1, HN.out.1, HN.out.1, HN.out.1, HN.out.1, HN.out.1, HN.out.2.1, HN.out.2.2.1, HN.out.2.2.2.1, HN.out.2.2.2.2]
    exact ⟨rfl, B9⟩
  rw [if_neg (by simp)] at hR
  have c6 := fun u => number4_ s 6 u (by unfold maxLen; omega) (by omega)
  have y0 := g16_nonneg s 6
  have y1 := g16_le s 6
  by_cases hf : ¬ g16 s 6 = 0 ∧ ¬ g16 s 6 = 16384
  · have HN := hno 5 (by omega) (by rw [hR, if_pos hf])
    obtain ⟨f0, f1⟩ := hf
    have f2 : (g16 s 6 != 0) = true := by simpa using f0
    have f3 : (g16 s 6 != 16384) = true := by simpa using f1
    have hX' := hX.symm
    clear hno hR hn hm hhv hX f0 f1
    go_enter Tryz.func69, Tryz.ntmps69
    go_wp2_with fail
    obtain ⟨w1, hw1⟩ : ∃ w1, w1 = w.alloc (.cells #[.int .u8 0, .int .u16 0, .bool false, .int .u8 0, .int .u8 0, .int .u32 0, .int .u32 0, .string ⟨#[]⟩] 50) := ⟨_, rfl⟩
    rw [← hw1]
    refine region_later (B := w1.heap.size) (by kernel_rfl) (by kernel_rfl) ?_
    repeat (go_big_quiet_step (first | (go_at_call 120; exact cn2 _ _ _)))
    refine later_end fun w2 b2 => ?_
    subst hw1
    obtain ⟨hc, hf⟩ := bcell4_ b2
    have hz : w.heap.size < w2.heap.size := by have := b2.size; simp at this; omega
    have B2 : Below w.heap.size w w2 := ((Below.refl _ _).alloc (Nat.le_refl _) _).trans (b2.mono (by simp))
    have hz2 := B2.size
    go_wp2_with fail
    refine (ch _ _ (by simp) (by simp [go_sem])).mono ?_; rintro e w3 ⟨rfl, rfl⟩
    obtain ⟨w3, hw3⟩ : ∃ w3, w3 = w2.alloc (.cells #[.string X] 9) := ⟨_, rfl⟩
    have hs3 : w.heap.size < w3.heap.size := by rw [hw3]; simp; omega
    have B3 : Below w.heap.size w w3 := by rw [hw3]; exact B2.alloc hz2 _
    have b3 : Below (w.alloc (.cells #[.int .u8 0, .int .u16 0, .bool false, .int .u8 0, .int .u8 0, .int .u32 0, .int .u32 0, .string ⟨#[]⟩] 50)).heap.size (w.alloc (.cells #[.int .u8 0, .int .u16 0, .bool false, .int .u8 0, .int .u8 0, .int .u32 0, .int .u32 0, .string ⟨#[]⟩] 50)) w3 := by rw [hw3]; exact b2.alloc b2.size _
    clear hc hf b2
    obtain ⟨hc, hf⟩ := bcell4_ b3
    rw [← hw3]
    clear hw3 B2 ch hz hz2
    go_wp2_with fail
    refine (c6 _).mono ?_; rintro e w4 ⟨rfl, rfl⟩
    go_wp2
    refine box8_ (b := w.heap.size) (box8_is rfl hc) B3 (Nat.le_refl _) fun w9 x0 x1 x2 x3 x4 x5 x6 x7 B9 _ => ?_
    clear hc hf b3 B3
    refine bodyPost_ret (v := .tuple #[.agg #[.int .u8 0, .int .u16 0, .bool false, .int .u8 0, .int .u8 0, .int .u32 0, .int .u32 0, .string ⟨#[]⟩], .string ⟨#[]⟩, .int .i64 5]) (by simp [results, Tryz.results69, go_sem, x0, x1, x2, x3, x4, x5, x6, x7]) rfl ?_
    rw [HN.out.1, HN.out.1, HN.out.1, HN.out.1, HN.out.1, HN.out.1, HN.out.2.1, HN.out.2.2.1, HN.out.2.2.2.1, HN.out.2.2.2.2]
    exact ⟨rfl, B9⟩
  rw [if_neg hf] at hR
  obtain ⟨hI, hF, hO, hP⟩ := p_yes (s := s) hR
  rw [← hn] at hO hP
  have hm2 : (g16 s 2).toNat = m := by omega
  rw [hm2] at hP
  have HN : Hid ((∀ v, pI s v = v) ∧ pF s = decide (0 < g16 s 6) ∧ pO s = s.extract 20 n ∧ pP s = s.extract n m ∧ pR s = 0) := ⟨hI, hF, hO, hP, hR⟩
  have hX' := hX.symm
  have m0 : n ≤ m := by omega
  have m1 : m ≤ s.size := by omega
  have i1 : (1 : Int) < (s.size : Int) := by omega
  have i8 : (8 : Int) < (s.size : Int) := by omega
  have i9 : (9 : Int) < (s.size : Int) := by omega
  have j1 : 1 < s.size := by omega
  have j8 : 8 < s.size := by omega
  have j9 : 9 < s.size := by omega
  have n20 : 20 ≤ n := by omega
  have n21 : (20 : Int) ≤ (n : Int) := by omega
  have e16 : IntKind.u16.wrap (g16 s 4) = g16 s 4 := by
    have := g16_nonneg s 4
    have := g16_le s 4
    exact IntWalk.u16_in _ (by omega)
  have w4 := fun u => number4_ s 4 u (by unfold maxLen; omega) (by omega)
  have w12 := fun u => addr4_ s 12 u (by unfold maxLen; omega) (by omega)
  have w16 := fun u => addr4_ s 16 u (by unfold maxLen; omega) (by omega)
  clear hno hR hI hF hO hP hn hhv hX hm2 hm cn
  by_cases f0 : g16 s 6 = 0
  · have f4 : decide ((0 : Int) < 0) = false := by decide
    rw [f0] at c6 HN
    clear hf y0 y1
    go_enter Tryz.func69, Tryz.ntmps69
    go_wp2_with fail
    obtain ⟨w1, hw1⟩ : ∃ w1, w1 = w.alloc (.cells #[.int .u8 0, .int .u16 0, .bool false, .int .u8 0, .int .u8 0, .int .u32 0, .int .u32 0, .string ⟨#[]⟩] 50) := ⟨_, rfl⟩
    rw [← hw1]
    refine region_later (B := w1.heap.size) (by kernel_rfl) (by kernel_rfl) ?_
    repeat (go_big_quiet_step (first | (go_at_call 120; exact cn2 _ _ _)))
    refine later_end fun w2 b2 => ?_
    subst hw1
    obtain ⟨hc, hf⟩ := bcell4_ b2
    have hz : w.heap.size < w2.heap.size := by have := b2.size; simp at this; omega
    have B2 : Below w.heap.size w w2 := ((Below.refl _ _).alloc (Nat.le_refl _) _).trans (b2.mono (by simp))
    have hz2 := B2.size
    go_wp2_with fail
    refine (ch _ _ (by simp) (by simp [go_sem])).mono ?_; rintro e w3 ⟨rfl, rfl⟩
    obtain ⟨w3, hw3⟩ : ∃ w3, w3 = w2.alloc (.cells #[.string X] 9) := ⟨_, rfl⟩
    have hs3 : w.heap.size < w3.heap.size := by rw [hw3]; simp; omega
    have B3 : Below w.heap.size w w3 := by rw [hw3]; exact B2.alloc hz2 _
    have b3 : Below (w.alloc (.cells #[.int .u8 0, .int .u16 0, .bool false, .int .u8 0, .int .u8 0, .int .u32 0, .int .u32 0, .string ⟨#[]⟩] 50)).heap.size (w.alloc (.cells #[.int .u8 0, .int .u16 0, .bool false, .int .u8 0, .int .u8 0, .int .u32 0, .int .u32 0, .string ⟨#[]⟩] 50)) w3 := by rw [hw3]; exact b2.alloc b2.size _
    clear hc hf b2
    obtain ⟨hc, hf⟩ := bcell4_ b3
    rw [← hw3]
    clear hw3 B2 ch hz hz2
    go_wp2_with fail
    refine (c6 _).mono ?_; rintro e w4 ⟨rfl, rfl⟩
    go_wp2_with fail
    clear cn2 b0 b1 hc hf HX hX' i0 e1 e2 e3 e4
    have hne : ¬ w.heap.size = w3.heap.size := by omega
    refine wp_region_noPanic ?_
    refine wp_region_held_drew (S := (fun w' => True)) (by kernel_rfl) trivial (fun hHeld => ?_)
    refine tk_ 0 (v := ?_) (by assumption) ?_ ?_
    rotate_left
    · intro w hSw
      (try dsimp only at hSw)
      go_simp
      with_reducible rfl
    try simp only [Act.put, puS_]
    refine tk_ 2 (v := ?_) (by assumption) ?_ ?_
    rotate_left
    · intro w hSw
      (try dsimp only at hSw)
      go_simp
      with_reducible rfl
    try simp only [Act.put, puS_]
    refine tk_ 5 (v := ?_) (by assumption) ?_ ?_
    rotate_left
    · intro w hSw
      (try dsimp only at hSw)
      go_simp
      with_reducible rfl
    try simp only [Act.put, puS_]
    refine tk_ 6 (v := ?_) (by assumption) ?_ ?_
    rotate_left
    · intro w hSw
      (try dsimp only at hSw)
      go_simp
      with_reducible rfl
    try simp only [Act.put, puS_]
    refine tk_ 7 (v := ?_) (by assumption) ?_ ?_
    rotate_left
    · intro w hSw
      (try dsimp only at hSw)
      go_simp
      with_reducible rfl
    try simp only [Act.put, puS_]
    refine tk_ 9 (v := ?_) (by assumption) ?_ ?_
    rotate_left
    · intro w hSw
      (try dsimp only at hSw)
      go_simp
      with_reducible rfl
    try simp only [Act.put, puS_]
    refine tk_ 11 (v := ?_) (by assumption) ?_ ?_
    rotate_left
    · intro w hSw
      (try dsimp only at hSw)
      go_simp
      with_reducible rfl
    try simp only [Act.put, puS_]
    refine tk_ 13 (v := ?_) (by assumption) ?_ ?_
    rotate_left
    · intro w hSw
      (try dsimp only at hSw)
      go_simp
      with_reducible rfl
    try simp only [Act.put, puS_]
    refine tk_ 15 (v := ?_) (by assumption) ?_ ?_
    rotate_left
    · intro w hSw
      (try dsimp only at hSw)
      go_simp
      with_reducible rfl
    try simp only [Act.put, puS_]
    refine tk_ 16 (v := ?_) (by assumption) ?_ ?_
    rotate_left
    · intro w hSw
      (try dsimp only at hSw)
      go_simp
      with_reducible rfl
    try simp only [Act.put, puS_]
    refine tk_ 17 (v := ?_) (by assumption) ?_ ?_
    rotate_left
    · intro w hSw
      (try dsimp only at hSw)
      go_simp
      with_reducible rfl
    try simp only [Act.put, puS_]
    refine tk_ 1 (v := ?_) (by assumption) ?_ ?_
    rotate_left
    · intro w hSw
      (try dsimp only at hSw)
      go_simp
      with_reducible rfl
    try simp only [Act.put, puS_]
    refine tk_ 8 (v := ?_) (by assumption) ?_ ?_
    rotate_left
    · intro w hSw
      (try dsimp only at hSw)
      go_simp
      with_reducible rfl
    try simp only [Act.put, puS_]
    refine tk_ 10 (v := ?_) (by assumption) ?_ ?_
    rotate_left
    · intro w hSw
      (try dsimp only at hSw)
      go_simp
      with_reducible rfl
    try simp only [Act.put, puS_]
    apply pqk_
    · intro tail
      refine wpAnyH_ready (rs := [3, 19]) (by kernel_rfl) (by simp) ?_
      refine AllReadyH.cons (o := _) rfl (fun K hK => ?_) ?_
      · go_simp
        refine (w4 _).mono ?_
        rintro e w5 ⟨rfl, rfl⟩
        show K _ _
        refine hK.out _ _ trivial (fun _ => ?_)
        clear hK K
        try simp only [Act.put, puS_]
        refine tk_ 4 (v := ?_) (by assumption) ?_ ?_
        rotate_left
        · intro w hSw
          (try dsimp only at hSw)
          go_simp
          with_reducible rfl
        try simp only [Act.put, puS_]
        refine wpAnyH_ready (rs := [12, 19]) (by kernel_rfl) (by simp) ?_
        refine AllReadyH.cons (o := _) rfl (fun K hK => ?_) ?_
        · go_simp
          refine (w12 _).mono ?_
          rintro e w5 ⟨rfl, rfl⟩
          show K _ _
          refine hK.out _ _ trivial (fun _ => ?_)
          clear hK K
          try simp only [Act.put, puS_]
          refine wpAnyH_ready (rs := [14, 19]) (by kernel_rfl) (by simp) ?_
          refine AllReadyH.cons (o := _) rfl (fun K hK => ?_) ?_
          · go_simp
            refine (w16 _).mono ?_
            rintro e w5 ⟨rfl, rfl⟩
            show K _ _
            refine hK.out _ _ trivial (fun _ => ?_)
            clear hK K
            try simp only [Act.put, puS_]
            refine tk_ 18 (v := ?_) (by assumption) ?_ ?_
            rotate_left
            · intro w hSw
              (try dsimp only at hSw)
              go_simp
              with_reducible rfl
            try simp only [Act.put, puS_]
            refine wpAnyH_ready (rs := [19]) (by kernel_rfl) (by simp) ?_
            refine AllReadyH.cons (o := _) rfl (fun K hK => ?_) ?_
            · go_simp
              refine hK.out _ _ trivial (fun _ => ?_)
              clear hK K
              try simp only [Act.put, puS_]
              refine wpAnyH_ready (rs := [20]) (by kernel_rfl) (by simp) ?_
              refine AllReadyH.cons (o := _) rfl (fun K hK => ?_) ?_
              · go_simp
                refine hK.out _ _ trivial (fun _ => ?_)
                clear hK K
                try simp only [Act.put, puS_]
                refine wpAnyH_done (by kernel_rfl) (NoPanic.normal ?_) _
                exact tail
              exact AllReadyH.nil
            exact AllReadyH.nil
          refine AllReadyH.cons (o := _) rfl (fun K hK => ?_) ?_
          · go_simp
            refine hK.out _ _ trivial (fun _ => ?_)
            clear hK K
            try simp only [Act.put, puS_]
            refine wpAnyH_ready (rs := [14]) (by kernel_rfl) (by simp) ?_
            refine AllReadyH.cons (o := _) rfl (fun K hK => ?_) ?_
            · go_simp
              refine (w16 _).mono ?_
              rintro e w5 ⟨rfl, rfl⟩
              show K _ _
              refine hK.out _ _ trivial (fun _ => ?_)
              clear hK K
              try simp only [Act.put, puS_]
              refine tk_ 18 (v := ?_) (by assumption) ?_ ?_
              rotate_left
              · intro w hSw
                (try dsimp only at hSw)
                go_simp
                with_reducible rfl
              try simp only [Act.put, puS_]
              refine wpAnyH_ready (rs := [20]) (by kernel_rfl) (by simp) ?_
              refine AllReadyH.cons (o := _) rfl (fun K hK => ?_) ?_
              · go_simp
                refine hK.out _ _ trivial (fun _ => ?_)
                clear hK K
                try simp only [Act.put, puS_]
                refine wpAnyH_done (by kernel_rfl) (NoPanic.normal ?_) _
                exact tail
              exact AllReadyH.nil
            exact AllReadyH.nil
          exact AllReadyH.nil
        refine AllReadyH.cons (o := _) rfl (fun K hK => ?_) ?_
        · go_simp
          refine hK.out _ _ trivial (fun _ => ?_)
          clear hK K
          try simp only [Act.put, puS_]
          refine wpAnyH_ready (rs := [12]) (by kernel_rfl) (by simp) ?_
          refine AllReadyH.cons (o := _) rfl (fun K hK => ?_) ?_
          · go_simp
            refine (w12 _).mono ?_
            rintro e w5 ⟨rfl, rfl⟩
            show K _ _
            refine hK.out _ _ trivial (fun _ => ?_)
            clear hK K
            try simp only [Act.put, puS_]
            refine wpAnyH_ready (rs := [14]) (by kernel_rfl) (by simp) ?_
            refine AllReadyH.cons (o := _) rfl (fun K hK => ?_) ?_
            · go_simp
              refine (w16 _).mono ?_
              rintro e w5 ⟨rfl, rfl⟩
              show K _ _
              refine hK.out _ _ trivial (fun _ => ?_)
              clear hK K
              try simp only [Act.put, puS_]
              refine tk_ 18 (v := ?_) (by assumption) ?_ ?_
              rotate_left
              · intro w hSw
                (try dsimp only at hSw)
                go_simp
                with_reducible rfl
              try simp only [Act.put, puS_]
              refine wpAnyH_ready (rs := [20]) (by kernel_rfl) (by simp) ?_
              refine AllReadyH.cons (o := _) rfl (fun K hK => ?_) ?_
              · go_simp
                refine hK.out _ _ trivial (fun _ => ?_)
                clear hK K
                try simp only [Act.put, puS_]
                refine wpAnyH_done (by kernel_rfl) (NoPanic.normal ?_) _
                exact tail
              exact AllReadyH.nil
            exact AllReadyH.nil
          exact AllReadyH.nil
        exact AllReadyH.nil
      refine AllReadyH.cons (o := _) rfl (fun K hK => ?_) ?_
      · go_simp
        refine hK.out _ _ trivial (fun _ => ?_)
        clear hK K
        try simp only [Act.put, puS_]
        refine wpAnyH_ready (rs := [3]) (by kernel_rfl) (by simp) ?_
        refine AllReadyH.cons (o := _) rfl (fun K hK => ?_) ?_
        · go_simp
          refine (w4 _).mono ?_
          rintro e w5 ⟨rfl, rfl⟩
          show K _ _
          refine hK.out _ _ trivial (fun _ => ?_)
          clear hK K
          try simp only [Act.put, puS_]
          refine tk_ 4 (v := ?_) (by assumption) ?_ ?_
          rotate_left
          · intro w hSw
            (try dsimp only at hSw)
            go_simp
            with_reducible rfl
          try simp only [Act.put, puS_]
          refine wpAnyH_ready (rs := [12]) (by kernel_rfl) (by simp) ?_
          refine AllReadyH.cons (o := _) rfl (fun K hK => ?_) ?_
          · go_simp
            refine (w12 _).mono ?_
            rintro e w5 ⟨rfl, rfl⟩
            show K _ _
            refine hK.out _ _ trivial (fun _ => ?_)
            clear hK K
            try simp only [Act.put, puS_]
            refine wpAnyH_ready (rs := [14]) (by kernel_rfl) (by simp) ?_
            refine AllReadyH.cons (o := _) rfl (fun K hK => ?_) ?_
            · go_simp
              refine (w16 _).mono ?_
              rintro e w5 ⟨rfl, rfl⟩
              show K _ _
              refine hK.out _ _ trivial (fun _ => ?_)
              clear hK K
              try simp only [Act.put, puS_]
              refine tk_ 18 (v := ?_) (by assumption) ?_ ?_
              rotate_left
              · intro w hSw
                (try dsimp only at hSw)
                go_simp
                with_reducible rfl
              try simp only [Act.put, puS_]
              refine wpAnyH_ready (rs := [20]) (by kernel_rfl) (by simp) ?_
              refine AllReadyH.cons (o := _) rfl (fun K hK => ?_) ?_
              · go_simp
                refine hK.out _ _ trivial (fun _ => ?_)
                clear hK K
                try simp only [Act.put, puS_]
                refine wpAnyH_done (by kernel_rfl) (NoPanic.normal ?_) _
                exact tail
              exact AllReadyH.nil
            exact AllReadyH.nil
          exact AllReadyH.nil
        exact AllReadyH.nil
      exact AllReadyH.nil
    refine new8_ fun w9 x0 x1 x2 x3 x4 x5 x6 x7 B9 s9 => ?_
    have b9 := b3.trans (B9.mono b3.size)
    obtain ⟨hc, hf⟩ := bcell4_ b9
    have B := B3.trans (B9.mono B3.size)
    clear b9 B9 b3 B3
    go_wp2_with fail
    refine wp_region_noPanic ?_
    refine wp_region_held_drew (S := (fun w' => w'.cell? ⟨w3.heap.size, 0, none⟩ = some (.int .u8 (bt s 1)) ∧ w'.cell? ⟨w3.heap.size, 1, none⟩ = some (.int .u16 (g16 s 4)) ∧ w'.cell? ⟨w3.heap.size, 2, none⟩ = some (.bool false) ∧ w'.cell? ⟨w3.heap.size, 3, none⟩ = some (.int .u8 (bt s 8)) ∧ w'.cell? ⟨w3.heap.size, 4, none⟩ = some (.int .u8 (bt s 9)) ∧ w'.cell? ⟨w3.heap.size, 5, none⟩ = some (.int .u32 (g32 s 12)) ∧ w'.cell? ⟨w3.heap.size, 6, none⟩ = some (.int .u32 (g32 s 16)) ∧ w'.cell? ⟨w3.heap.size, 7, none⟩ = some (.string (s.extract 20 n)))) (by kernel_rfl) ?_ (fun hHeld => ?_)
    · simp [x0, x1, x2, x3, x4, x5, x6, x7]
    refine tk_ 0 (v := ?_) (by assumption) ?_ ?_
    rotate_left
    · intro w hSw
      (try dsimp only at hSw)
      obtain ⟨g0, g1, g2, g3, g4, g5, g6, g7⟩ := hSw
      go_simp
      with_reducible rfl
    try simp only [Act.put, puS_]
    refine tk_ 1 (v := ?_) (by assumption) ?_ ?_
    rotate_left
    · intro w hSw
      (try dsimp only at hSw)
      obtain ⟨g0, g1, g2, g3, g4, g5, g6, g7⟩ := hSw
      go_simp
      with_reducible rfl
    try simp only [Act.put, puS_]
    refine tk_ 2 (v := ?_) (by assumption) ?_ ?_
    rotate_left
    · intro w hSw
      (try dsimp only at hSw)
      obtain ⟨g0, g1, g2, g3, g4, g5, g6, g7⟩ := hSw
      go_simp
      with_reducible rfl
    try simp only [Act.put, puS_]
    refine tk_ 3 (v := ?_) (by assumption) ?_ ?_
    rotate_left
    · intro w hSw
      (try dsimp only at hSw)
      obtain ⟨g0, g1, g2, g3, g4, g5, g6, g7⟩ := hSw
      go_simp
      with_reducible rfl
    try simp only [Act.put, puS_]
    refine tk_ 4 (v := ?_) (by assumption) ?_ ?_
    rotate_left
    · intro w hSw
      (try dsimp only at hSw)
      obtain ⟨g0, g1, g2, g3, g4, g5, g6, g7⟩ := hSw
      go_simp
      with_reducible rfl
    try simp only [Act.put, puS_]
    refine rd_ 5 (fun K hK => ?_)
    go_simp
    refine box8d_ (b := w.heap.size) (box8_is rfl hc) B (Nat.le_refl _) fun wz y0 y1 y2 y3 y4 y5 y6 y7 BZ far => ?_
    have hS2 : wz.cell? ⟨w3.heap.size, 0, none⟩ = some (.int .u8 (bt s 1)) ∧ wz.cell? ⟨w3.heap.size, 1, none⟩ = some (.int .u16 (g16 s 4)) ∧ wz.cell? ⟨w3.heap.size, 2, none⟩ = some (.bool false) ∧ wz.cell? ⟨w3.heap.size, 3, none⟩ = some (.int .u8 (bt s 8)) ∧ wz.cell? ⟨w3.heap.size, 4, none⟩ = some (.int .u8 (bt s 9)) ∧ wz.cell? ⟨w3.heap.size, 5, none⟩ = some (.int .u32 (g32 s 12)) ∧ wz.cell? ⟨w3.heap.size, 6, none⟩ = some (.int .u32 (g32 s 16)) ∧ wz.cell? ⟨w3.heap.size, 7, none⟩ = some (.string (s.extract 20 n)) :=
      ⟨(far _ hne).trans x0, (far _ hne).trans x1, (far _ hne).trans x2, (far _ hne).trans x3, (far _ hne).trans x4, (far _ hne).trans x5, (far _ hne).trans x6, (far _ hne).trans x7⟩
    refine hK.out _ _ hS2 (fun hHeld2 => ?_)
    clear hK K hHeld hHeld2 far hc hf x0 x1 x2 x3 x4 x5 x6 x7 B
    try simp only [Act.put, puS_]
    refine rd_ 6 (fun K hK => ?_)
    go_simp
    refine hK.out _ _ hS2 (fun _ => ?_)
    clear hK K
    try simp only [Act.put, puS_]
    refine rd_ 7 (fun K hK => ?_)
    go_simp
    refine hK.out _ _ hS2 (fun _ => ?_)
    clear hK K
    try simp only [Act.put, puS_]
    refine wpAnyH_done (by kernel_rfl) (NoPanic.normal ?_) _
    clear hS2
    go_wp2
    refine bodyPost_ret (v := .tuple #[.agg #[.int .u8 (bt s 1), .int .u16 (g16 s 4), .bool false, .int .u8 (bt s 8), .int .u8 (bt s 9), .int .u32 (g32 s 12), .int .u32 (g32 s 16), .string (s.extract 20 n)], .string (s.extract n m), .int .i64 0]) (by simp [results, Tryz.results69, go_sem, y0, y1, y2, y3, y4, y5, y6, y7]) rfl ?_
    rw [HN.out.1, HN.out.1, HN.out.1, HN.out.1, HN.out.1, HN.out.1, HN.out.2.1, HN.out.2.2.1, HN.out.2.2.2.1, HN.out.2.2.2.2]
    exact ⟨rfl, BZ⟩
  · have f1 : g16 s 6 = 16384 := by omega
    have f4 : decide ((0 : Int) < 16384) = true := by decide
    rw [f1] at c6 HN
    clear hf y0 y1 f0
    go_enter Tryz.func69, Tryz.ntmps69
    go_wp2_with fail
    obtain ⟨w1, hw1⟩ : ∃ w1, w1 = w.alloc (.cells #[.int .u8 0, .int .u16 0, .bool false, .int .u8 0, .int .u8 0, .int .u32 0, .int .u32 0, .string ⟨#[]⟩] 50) := ⟨_, rfl⟩
    rw [← hw1]
    refine region_later (B := w1.heap.size) (by kernel_rfl) (by kernel_rfl) ?_
    repeat (go_big_quiet_step (first | (go_at_call 120; exact cn2 _ _ _)))
    refine later_end fun w2 b2 => ?_
    subst hw1
    obtain ⟨hc, hf⟩ := bcell4_ b2
    have hz : w.heap.size < w2.heap.size := by have := b2.size; simp at this; omega
    have B2 : Below w.heap.size w w2 := ((Below.refl _ _).alloc (Nat.le_refl _) _).trans (b2.mono (by simp))
    have hz2 := B2.size
    go_wp2_with fail
    refine (ch _ _ (by simp) (by simp [go_sem])).mono ?_; rintro e w3 ⟨rfl, rfl⟩
    obtain ⟨w3, hw3⟩ : ∃ w3, w3 = w2.alloc (.cells #[.string X] 9) := ⟨_, rfl⟩
    have hs3 : w.heap.size < w3.heap.size := by rw [hw3]; simp; omega
    have B3 : Below w.heap.size w w3 := by rw [hw3]; exact B2.alloc hz2 _
    have b3 : Below (w.alloc (.cells #[.int .u8 0, .int .u16 0, .bool false, .int .u8 0, .int .u8 0, .int .u32 0, .int .u32 0, .string ⟨#[]⟩] 50)).heap.size (w.alloc (.cells #[.int .u8 0, .int .u16 0, .bool false, .int .u8 0, .int .u8 0, .int .u32 0, .int .u32 0, .string ⟨#[]⟩] 50)) w3 := by rw [hw3]; exact b2.alloc b2.size _
    clear hc hf b2
    obtain ⟨hc, hf⟩ := bcell4_ b3
    rw [← hw3]
    clear hw3 B2 ch hz hz2
    go_wp2_with fail
    refine (c6 _).mono ?_; rintro e w4 ⟨rfl, rfl⟩
    go_wp2_with fail
    clear cn2 b0 b1 hc hf HX hX' i0 e1 e2 e3 e4
    have hne : ¬ w.heap.size = w3.heap.size := by omega
    refine wp_region_noPanic ?_
    refine wp_region_held_drew (S := (fun w' => True)) (by kernel_rfl) trivial (fun hHeld => ?_)
    refine tk_ 0 (v := ?_) (by assumption) ?_ ?_
    rotate_left
    · intro w hSw
      (try dsimp only at hSw)
      go_simp
      with_reducible rfl
    try simp only [Act.put, puS_]
    refine tk_ 2 (v := ?_) (by assumption) ?_ ?_
    rotate_left
    · intro w hSw
      (try dsimp only at hSw)
      go_simp
      with_reducible rfl
    try simp only [Act.put, puS_]
    refine tk_ 5 (v := ?_) (by assumption) ?_ ?_
    rotate_left
    · intro w hSw
      (try dsimp only at hSw)
      go_simp
      with_reducible rfl
    try simp only [Act.put, puS_]
    refine tk_ 6 (v := ?_) (by assumption) ?_ ?_
    rotate_left
    · intro w hSw
      (try dsimp only at hSw)
      go_simp
      with_reducible rfl
    try simp only [Act.put, puS_]
    refine tk_ 7 (v := ?_) (by assumption) ?_ ?_
    rotate_left
    · intro w hSw
      (try dsimp only at hSw)
      go_simp
      with_reducible rfl
    try simp only [Act.put, puS_]
    refine tk_ 9 (v := ?_) (by assumption) ?_ ?_
    rotate_left
    · intro w hSw
      (try dsimp only at hSw)
      go_simp
      with_reducible rfl
    try simp only [Act.put, puS_]
    refine tk_ 11 (v := ?_) (by assumption) ?_ ?_
    rotate_left
    · intro w hSw
      (try dsimp only at hSw)
      go_simp
      with_reducible rfl
    try simp only [Act.put, puS_]
    refine tk_ 13 (v := ?_) (by assumption) ?_ ?_
    rotate_left
    · intro w hSw
      (try dsimp only at hSw)
      go_simp
      with_reducible rfl
    try simp only [Act.put, puS_]
    refine tk_ 15 (v := ?_) (by assumption) ?_ ?_
    rotate_left
    · intro w hSw
      (try dsimp only at hSw)
      go_simp
      with_reducible rfl
    try simp only [Act.put, puS_]
    refine tk_ 16 (v := ?_) (by assumption) ?_ ?_
    rotate_left
    · intro w hSw
      (try dsimp only at hSw)
      go_simp
      with_reducible rfl
    try simp only [Act.put, puS_]
    refine tk_ 17 (v := ?_) (by assumption) ?_ ?_
    rotate_left
    · intro w hSw
      (try dsimp only at hSw)
      go_simp
      with_reducible rfl
    try simp only [Act.put, puS_]
    refine tk_ 1 (v := ?_) (by assumption) ?_ ?_
    rotate_left
    · intro w hSw
      (try dsimp only at hSw)
      go_simp
      with_reducible rfl
    try simp only [Act.put, puS_]
    refine tk_ 8 (v := ?_) (by assumption) ?_ ?_
    rotate_left
    · intro w hSw
      (try dsimp only at hSw)
      go_simp
      with_reducible rfl
    try simp only [Act.put, puS_]
    refine tk_ 10 (v := ?_) (by assumption) ?_ ?_
    rotate_left
    · intro w hSw
      (try dsimp only at hSw)
      go_simp
      with_reducible rfl
    try simp only [Act.put, puS_]
    apply pqk_
    · intro tail
      refine wpAnyH_ready (rs := [3, 19]) (by kernel_rfl) (by simp) ?_
      refine AllReadyH.cons (o := _) rfl (fun K hK => ?_) ?_
      · go_simp
        refine (w4 _).mono ?_
        rintro e w5 ⟨rfl, rfl⟩
        show K _ _
        refine hK.out _ _ trivial (fun _ => ?_)
        clear hK K
        try simp only [Act.put, puS_]
        refine tk_ 4 (v := ?_) (by assumption) ?_ ?_
        rotate_left
        · intro w hSw
          (try dsimp only at hSw)
          go_simp
          with_reducible rfl
        try simp only [Act.put, puS_]
        refine wpAnyH_ready (rs := [12, 19]) (by kernel_rfl) (by simp) ?_
        refine AllReadyH.cons (o := _) rfl (fun K hK => ?_) ?_
        · go_simp
          refine (w12 _).mono ?_
          rintro e w5 ⟨rfl, rfl⟩
          show K _ _
          refine hK.out _ _ trivial (fun _ => ?_)
          clear hK K
          try simp only [Act.put, puS_]
          refine wpAnyH_ready (rs := [14, 19]) (by kernel_rfl) (by simp) ?_
          refine AllReadyH.cons (o := _) rfl (fun K hK => ?_) ?_
          · go_simp
            refine (w16 _).mono ?_
            rintro e w5 ⟨rfl, rfl⟩
            show K _ _
            refine hK.out _ _ trivial (fun _ => ?_)
            clear hK K
            try simp only [Act.put, puS_]
            refine tk_ 18 (v := ?_) (by assumption) ?_ ?_
            rotate_left
            · intro w hSw
              (try dsimp only at hSw)
              go_simp
              with_reducible rfl
            try simp only [Act.put, puS_]
            refine wpAnyH_ready (rs := [19]) (by kernel_rfl) (by simp) ?_
            refine AllReadyH.cons (o := _) rfl (fun K hK => ?_) ?_
            · go_simp
              refine hK.out _ _ trivial (fun _ => ?_)
              clear hK K
              try simp only [Act.put, puS_]
              refine wpAnyH_ready (rs := [20]) (by kernel_rfl) (by simp) ?_
              refine AllReadyH.cons (o := _) rfl (fun K hK => ?_) ?_
              · go_simp
                refine hK.out _ _ trivial (fun _ => ?_)
                clear hK K
                try simp only [Act.put, puS_]
                refine wpAnyH_done (by kernel_rfl) (NoPanic.normal ?_) _
                exact tail
              exact AllReadyH.nil
            exact AllReadyH.nil
          refine AllReadyH.cons (o := _) rfl (fun K hK => ?_) ?_
          · go_simp
            refine hK.out _ _ trivial (fun _ => ?_)
            clear hK K
            try simp only [Act.put, puS_]
            refine wpAnyH_ready (rs := [14]) (by kernel_rfl) (by simp) ?_
            refine AllReadyH.cons (o := _) rfl (fun K hK => ?_) ?_
            · go_simp
              refine (w16 _).mono ?_
              rintro e w5 ⟨rfl, rfl⟩
              show K _ _
              refine hK.out _ _ trivial (fun _ => ?_)
              clear hK K
              try simp only [Act.put, puS_]
              refine tk_ 18 (v := ?_) (by assumption) ?_ ?_
              rotate_left
              · intro w hSw
                (try dsimp only at hSw)
                go_simp
                with_reducible rfl
              try simp only [Act.put, puS_]
              refine wpAnyH_ready (rs := [20]) (by kernel_rfl) (by simp) ?_
              refine AllReadyH.cons (o := _) rfl (fun K hK => ?_) ?_
              · go_simp
                refine hK.out _ _ trivial (fun _ => ?_)
                clear hK K
                try simp only [Act.put, puS_]
                refine wpAnyH_done (by kernel_rfl) (NoPanic.normal ?_) _
                exact tail
              exact AllReadyH.nil
            exact AllReadyH.nil
          exact AllReadyH.nil
        refine AllReadyH.cons (o := _) rfl (fun K hK => ?_) ?_
        · go_simp
          refine hK.out _ _ trivial (fun _ => ?_)
          clear hK K
          try simp only [Act.put, puS_]
          refine wpAnyH_ready (rs := [12]) (by kernel_rfl) (by simp) ?_
          refine AllReadyH.cons (o := _) rfl (fun K hK => ?_) ?_
          · go_simp
            refine (w12 _).mono ?_
            rintro e w5 ⟨rfl, rfl⟩
            show K _ _
            refine hK.out _ _ trivial (fun _ => ?_)
            clear hK K
            try simp only [Act.put, puS_]
            refine wpAnyH_ready (rs := [14]) (by kernel_rfl) (by simp) ?_
            refine AllReadyH.cons (o := _) rfl (fun K hK => ?_) ?_
            · go_simp
              refine (w16 _).mono ?_
              rintro e w5 ⟨rfl, rfl⟩
              show K _ _
              refine hK.out _ _ trivial (fun _ => ?_)
              clear hK K
              try simp only [Act.put, puS_]
              refine tk_ 18 (v := ?_) (by assumption) ?_ ?_
              rotate_left
              · intro w hSw
                (try dsimp only at hSw)
                go_simp
                with_reducible rfl
              try simp only [Act.put, puS_]
              refine wpAnyH_ready (rs := [20]) (by kernel_rfl) (by simp) ?_
              refine AllReadyH.cons (o := _) rfl (fun K hK => ?_) ?_
              · go_simp
                refine hK.out _ _ trivial (fun _ => ?_)
                clear hK K
                try simp only [Act.put, puS_]
                refine wpAnyH_done (by kernel_rfl) (NoPanic.normal ?_) _
                exact tail
              exact AllReadyH.nil
            exact AllReadyH.nil
          exact AllReadyH.nil
        exact AllReadyH.nil
      refine AllReadyH.cons (o := _) rfl (fun K hK => ?_) ?_
      · go_simp
        refine hK.out _ _ trivial (fun _ => ?_)
        clear hK K
        try simp only [Act.put, puS_]
        refine wpAnyH_ready (rs := [3]) (by kernel_rfl) (by simp) ?_
        refine AllReadyH.cons (o := _) rfl (fun K hK => ?_) ?_
        · go_simp
          refine (w4 _).mono ?_
          rintro e w5 ⟨rfl, rfl⟩
          show K _ _
          refine hK.out _ _ trivial (fun _ => ?_)
          clear hK K
          try simp only [Act.put, puS_]
          refine tk_ 4 (v := ?_) (by assumption) ?_ ?_
          rotate_left
          · intro w hSw
            (try dsimp only at hSw)
            go_simp
            with_reducible rfl
          try simp only [Act.put, puS_]
          refine wpAnyH_ready (rs := [12]) (by kernel_rfl) (by simp) ?_
          refine AllReadyH.cons (o := _) rfl (fun K hK => ?_) ?_
          · go_simp
            refine (w12 _).mono ?_
            rintro e w5 ⟨rfl, rfl⟩
            show K _ _
            refine hK.out _ _ trivial (fun _ => ?_)
            clear hK K
            try simp only [Act.put, puS_]
            refine wpAnyH_ready (rs := [14]) (by kernel_rfl) (by simp) ?_
            refine AllReadyH.cons (o := _) rfl (fun K hK => ?_) ?_
            · go_simp
              refine (w16 _).mono ?_
              rintro e w5 ⟨rfl, rfl⟩
              show K _ _
              refine hK.out _ _ trivial (fun _ => ?_)
              clear hK K
              try simp only [Act.put, puS_]
              refine tk_ 18 (v := ?_) (by assumption) ?_ ?_
              rotate_left
              · intro w hSw
                (try dsimp only at hSw)
                go_simp
                with_reducible rfl
              try simp only [Act.put, puS_]
              refine wpAnyH_ready (rs := [20]) (by kernel_rfl) (by simp) ?_
              refine AllReadyH.cons (o := _) rfl (fun K hK => ?_) ?_
              · go_simp
                refine hK.out _ _ trivial (fun _ => ?_)
                clear hK K
                try simp only [Act.put, puS_]
                refine wpAnyH_done (by kernel_rfl) (NoPanic.normal ?_) _
                exact tail
              exact AllReadyH.nil
            exact AllReadyH.nil
          exact AllReadyH.nil
        exact AllReadyH.nil
      exact AllReadyH.nil
    refine new8_ fun w9 x0 x1 x2 x3 x4 x5 x6 x7 B9 s9 => ?_
    have b9 := b3.trans (B9.mono b3.size)
    obtain ⟨hc, hf⟩ := bcell4_ b9
    have B := B3.trans (B9.mono B3.size)
    clear b9 B9 b3 B3
    go_wp2_with fail
    refine wp_region_noPanic ?_
    refine wp_region_held_drew (S := (fun w' => w'.cell? ⟨w3.heap.size, 0, none⟩ = some (.int .u8 (bt s 1)) ∧ w'.cell? ⟨w3.heap.size, 1, none⟩ = some (.int .u16 (g16 s 4)) ∧ w'.cell? ⟨w3.heap.size, 2, none⟩ = some (.bool true) ∧ w'.cell? ⟨w3.heap.size, 3, none⟩ = some (.int .u8 (bt s 8)) ∧ w'.cell? ⟨w3.heap.size, 4, none⟩ = some (.int .u8 (bt s 9)) ∧ w'.cell? ⟨w3.heap.size, 5, none⟩ = some (.int .u32 (g32 s 12)) ∧ w'.cell? ⟨w3.heap.size, 6, none⟩ = some (.int .u32 (g32 s 16)) ∧ w'.cell? ⟨w3.heap.size, 7, none⟩ = some (.string (s.extract 20 n)))) (by kernel_rfl) ?_ (fun hHeld => ?_)
    · simp [x0, x1, x2, x3, x4, x5, x6, x7]
    refine tk_ 0 (v := ?_) (by assumption) ?_ ?_
    rotate_left
    · intro w hSw
      (try dsimp only at hSw)
      obtain ⟨g0, g1, g2, g3, g4, g5, g6, g7⟩ := hSw
      go_simp
      with_reducible rfl
    try simp only [Act.put, puS_]
    refine tk_ 1 (v := ?_) (by assumption) ?_ ?_
    rotate_left
    · intro w hSw
      (try dsimp only at hSw)
      obtain ⟨g0, g1, g2, g3, g4, g5, g6, g7⟩ := hSw
      go_simp
      with_reducible rfl
    try simp only [Act.put, puS_]
    refine tk_ 2 (v := ?_) (by assumption) ?_ ?_
    rotate_left
    · intro w hSw
      (try dsimp only at hSw)
      obtain ⟨g0, g1, g2, g3, g4, g5, g6, g7⟩ := hSw
      go_simp
      with_reducible rfl
    try simp only [Act.put, puS_]
    refine tk_ 3 (v := ?_) (by assumption) ?_ ?_
    rotate_left
    · intro w hSw
      (try dsimp only at hSw)
      obtain ⟨g0, g1, g2, g3, g4, g5, g6, g7⟩ := hSw
      go_simp
      with_reducible rfl
    try simp only [Act.put, puS_]
    refine tk_ 4 (v := ?_) (by assumption) ?_ ?_
    rotate_left
    · intro w hSw
      (try dsimp only at hSw)
      obtain ⟨g0, g1, g2, g3, g4, g5, g6, g7⟩ := hSw
      go_simp
      with_reducible rfl
    try simp only [Act.put, puS_]
    refine rd_ 5 (fun K hK => ?_)
    go_simp
    refine box8d_ (b := w.heap.size) (box8_is rfl hc) B (Nat.le_refl _) fun wz y0 y1 y2 y3 y4 y5 y6 y7 BZ far => ?_
    have hS2 : wz.cell? ⟨w3.heap.size, 0, none⟩ = some (.int .u8 (bt s 1)) ∧ wz.cell? ⟨w3.heap.size, 1, none⟩ = some (.int .u16 (g16 s 4)) ∧ wz.cell? ⟨w3.heap.size, 2, none⟩ = some (.bool true) ∧ wz.cell? ⟨w3.heap.size, 3, none⟩ = some (.int .u8 (bt s 8)) ∧ wz.cell? ⟨w3.heap.size, 4, none⟩ = some (.int .u8 (bt s 9)) ∧ wz.cell? ⟨w3.heap.size, 5, none⟩ = some (.int .u32 (g32 s 12)) ∧ wz.cell? ⟨w3.heap.size, 6, none⟩ = some (.int .u32 (g32 s 16)) ∧ wz.cell? ⟨w3.heap.size, 7, none⟩ = some (.string (s.extract 20 n)) :=
      ⟨(far _ hne).trans x0, (far _ hne).trans x1, (far _ hne).trans x2, (far _ hne).trans x3, (far _ hne).trans x4, (far _ hne).trans x5, (far _ hne).trans x6, (far _ hne).trans x7⟩
    refine hK.out _ _ hS2 (fun hHeld2 => ?_)
    clear hK K hHeld hHeld2 far hc hf x0 x1 x2 x3 x4 x5 x6 x7 B
    try simp only [Act.put, puS_]
    refine rd_ 6 (fun K hK => ?_)
    go_simp
    refine hK.out _ _ hS2 (fun _ => ?_)
    clear hK K
    try simp only [Act.put, puS_]
    refine rd_ 7 (fun K hK => ?_)
    go_simp
    refine hK.out _ _ hS2 (fun _ => ?_)
    clear hK K
    try simp only [Act.put, puS_]
    refine wpAnyH_done (by kernel_rfl) (NoPanic.normal ?_) _
    clear hS2
    go_wp2
    refine bodyPost_ret (v := .tuple #[.agg #[.int .u8 (bt s 1), .int .u16 (g16 s 4), .bool true, .int .u8 (bt s 8), .int .u8 (bt s 9), .int .u32 (g32 s 12), .int .u32 (g32 s 16), .string (s.extract 20 n)], .string (s.extract n m), .int .i64 0]) (by simp [results, Tryz.results69, go_sem, y0, y1, y2, y3, y4, y5, y6, y7]) rfl ?_
    rw [HN.out.1, HN.out.1, HN.out.1, HN.out.1, HN.out.1, HN.out.1, HN.out.2.1, HN.out.2.2.1, HN.out.2.2.2.1, HN.out.2.2.2.2]
    exact ⟨rfl, BZ⟩
end Go.Proofs.YtbpicngbjggblaaGreatDoor
namespace Go.Proofs.YtbpicngbjggblaaGreatDoor
set_option linter.unusedVariables false
set_option linter.unusedSimpArgs false
theorem g16_app_l (a b : ByteArray) (j : Nat) (h : j + 1 < a.size) : g16 (a ++ b) j = g16 a j := by
  unfold g16; rw [bt_append_left a b j (by omega), bt_append_left a b (j + 1) h]
theorem g16_app_r (a b : ByteArray) (j : Nat) : g16 (a ++ b) (a.size + j) = g16 b j := by
  unfold g16; rw [bt_append_right, Nat.add_assoc, bt_append_right]
theorem tot_app_l (a b : ByteArray) : ∀ i, 2 * i ≤ a.size → tot (a ++ b) i = tot a i
  | 0, _ => rfl
  | i + 1, h => by
    show tot (a ++ b) i + g16 (a ++ b) (2 * i) = tot a i + g16 a (2 * i)
    rw [tot_app_l a b i (by omega), g16_app_l a b (2 * i) (by omega)]
theorem tot_app_r (a b : ByteArray) (k : Nat) (h : a.size = 2 * k) : ∀ i, tot (a ++ b) (k + i) = tot a k + tot b i
  | 0 => by
    show tot (a ++ b) k = tot a k + 0
    rw [tot_app_l a b k (by omega)]; omega
  | i + 1 => by
    show tot (a ++ b) (k + i) + g16 (a ++ b) (2 * (k + i)) = tot a k + (tot b i + g16 b (2 * i))
    rw [tot_app_r a b k h i, show 2 * (k + i) = a.size + 2 * i by omega, g16_app_r]
    omega
theorem totT_app (a b : ByteArray) (k : Nat) (h : a.size = 2 * k) : totT (a ++ b) = totT a + totT b := by
  unfold totT
  rw [show half (a ++ b) = k + half b by unfold half; rw [ByteArray.size_append]; omega, show half a = k by unfold half; omega]
  exact tot_app_r a b k h _
end Go.Proofs.YtbpicngbjggblaaGreatDoor
namespace Go.Proofs.YtbpicngbjggblaaGreatDoor
set_option linter.unusedVariables false
set_option linter.unusedSimpArgs false
open Go.ChangeShapes Go.WideShapes Go.ChangeAt Go.RowKit Go.PlainAid
theorem bt_hi (s : ByteArray) (k : Nat) : bt s k = g16 s k / 256 := by
  have := bt_nonneg s (k + 1); have := bt_le s (k + 1); unfold g16; omega
theorem bt_lo (s : ByteArray) (k : Nat) : bt s (k + 1) = g16 s k % 256 := by
  have := bt_nonneg s (k + 1); have := bt_le s (k + 1); unfold g16; omega
theorem g32_two (s : ByteArray) (k : Nat) : g32 s k = g16 s k * 65536 + g16 s (k + 2) := by
  unfold g32 g16; rw [show k + 2 + 1 = k + 3 by omega]; omega
theorem ext_app_l (a b : ByteArray) : (a ++ b).extract 0 a.size = a := by
  apply ba_ext
  rw [data_extract, data_append, ← len_data a]
  simp
theorem ext_app_r (a b : ByteArray) (i j : Nat) : (a ++ b).extract (a.size + i) (a.size + j) = b.extract i j := by
  apply ba_ext
  rw [data_extract, data_extract, data_append, ← len_data a]
  rw [List.take_length_add_append, List.drop_append]
  simp
theorem ext_all (a : ByteArray) : a.extract 0 a.size = a := by
  apply ba_ext
  rw [data_extract, ← len_data a, List.take_length, List.drop_zero]
theorem ba_bt {a b : ByteArray} (hz : a.size = b.size) (h : ∀ i, i < a.size → bt a i = bt b i) : a = b := by
  apply ba_ext
  apply List.ext_getElem (by rw [len_data, len_data, hz])
  intro i h1 h2
  have := h i (by rw [← len_data]; exact h1)
  rw [bt_eq, bt_eq, getD_lt _ _ _ h1, getD_lt _ _ _ h2] at this
  exact UInt8.toNat_inj.1 (by omega)
theorem ba_g16 {a b : ByteArray} (k : Nat) (ha : a.size = 2 * k) (hb : b.size = 2 * k) (h : ∀ i, i < k → g16 a (2 * i) = g16 b (2 * i)) : a = b := by
  refine ba_bt (by omega) fun i hi => ?_
  rcases (show i = 2 * (i / 2) ∨ i = 2 * (i / 2) + 1 by omega) with e | e
  · rw [e, bt_hi, bt_hi, h _ (by omega)]
  · rw [e, bt_lo, bt_lo, h _ (by omega)]
theorem bt_ext0 (s : ByteArray) (n i : Nat) (hi : i < n) (hn : n ≤ s.size) : bt (s.extract 0 n) i = bt s i := by
  rw [bt_eq, bt_eq, data_extract, List.drop_zero, getD_lt _ _ _ (by rw [List.length_take, len_data]; omega), getD_lt _ _ _ (by rw [len_data]; omega), List.getElem_take]
theorem g16_ext0 (s : ByteArray) (n i : Nat) (hi : i + 1 < n) (hn : n ≤ s.size) : g16 (s.extract 0 n) i = g16 s i := by
  unfold g16; rw [bt_ext0 s n i (by omega) hn, bt_ext0 s n (i + 1) hi hn]
theorem ext_join (s : ByteArray) (i j k : Nat) (h1 : i ≤ j) (h2 : j ≤ k) : s.extract i j ++ s.extract j k = s.extract i k := by
  apply ba_ext
  rw [data_append, data_extract, data_extract, data_extract]
  rw [show s.data.toList.take j = (s.data.toList.take k).take j by rw [List.take_take, Nat.min_eq_left h2]]
  generalize s.data.toList.take k = l
  conv => rhs; rw [← List.take_append_drop j l, List.drop_append]
  congr 1
  by_cases h : j ≤ l.length
  · rw [List.length_take, Nat.min_eq_left h, show i - j = 0 by omega, List.drop_zero]
  · rw [List.drop_eq_nil_of_le (by omega : l.length ≤ j), List.drop_nil]
theorem bt_ext (s : ByteArray) (a b i : Nat) (hi : i < b - a) (hn : b ≤ s.size) : bt (s.extract a b) i = bt s (a + i) := by
  rw [bt_eq, bt_eq, data_extract, getD_lt _ _ _ (by rw [List.length_drop, List.length_take, len_data]; omega), getD_lt _ _ _ (by rw [len_data]; omega), List.getElem_drop, List.getElem_take]
end Go.Proofs.YtbpicngbjggblaaGreatDoor
