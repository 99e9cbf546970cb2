/- Contracts of package udp: get16, read, summed; what is summed in parts. -/
import Derived.Test.YtkfbkdgfpipdkaaUdpM
import Derived.Test.YtkfbkdgfpipdkaaUdpB
import Derived.Test.YtkfbkdgfpipdkaaShelfStr
import Derived.Test.YtkfbkdgfpipdkaaSumsB
import Derived.Test.YtkfbkdgfpipdkaaLead
import Derived.Laws.OwnMore
import Derived.ArgAppend
import Derived.Deep.AppendLies
namespace Go.Proofs.Ytkfbkdgfpipdkaa
set_option linter.unusedVariables false
set_option linter.unusedSimpArgs false
open Go.ChangeShapes Go.WideShapes Go.ChangeAt Go.RowKit Go.PlainAid
attribute [local go_sem ↓] Go.wp_at_zero Go.wp_at_succ
set_option maxHeartbeats 400000 in
theorem udpGet16_ (s : ByteArray) (k : Nat) (w : World) (hs : s.size ≤ maxLen) (h : k + 2 ≤ s.size) :
    Calls Try.prog 38 #[.string s, .int .i64 (k : Int)] w fun e w' => e = .returned (.int .u16 (g16 s k)) ∧ Below w.heap.size w w' := by
  go_enter Try.func38, Try.ntmps38
  go_wp2_with fail
  refine (get16_yes s k _ hs h).mono ?_; rintro e w' ⟨rfl, B⟩
  go_wp2
  go_ret
  exact ⟨rfl, B⟩
set_option maxHeartbeats 1000000 in
set_option maxRecDepth 100000 in
theorem udpRead_ (s : ByteArray) (w : World) (hs : s.size ≤ maxLen) (h : 8 ≤ s.size) :
    Calls Try.prog 18 #[.string s] w fun e w' => e = .returned (.agg #[.int .u16 (g16 s 0), .int .u16 (g16 s 2), .int .u16 (g16 s 4), .int .u16 (g16 s 6)]) ∧ Below w.heap.size w w' := by
  have c0 := fun u => udpGet16_ s 0 u hs (by omega)
  have c2 := fun u => udpGet16_ s 2 u hs (by omega)
  have c4 := fun u => udpGet16_ s 4 u hs (by omega)
  have c6 := fun u => udpGet16_ s 6 u hs (by omega)
  generalize g16 s 0 = v0 at *
  generalize g16 s 2 = v2 at *
  generalize g16 s 4 = v4 at *
  generalize g16 s 6 = v6 at *
  go_enter Try.func18, Try.ntmps18
  go_wp2_with fail
  refine (c0 _).mono ?_; rintro e w1 ⟨rfl, b1⟩
  obtain ⟨w0, hw0⟩ : ∃ w0, w0 = w.alloc (.cells #[.int .u16 0, .int .u16 0, .int .u16 0, .int .u16 0] 24) := ⟨_, rfl⟩
  rw [← hw0] at b1
  go_wp2_with fail
  refine (c2 _).mono ?_; rintro e w2 ⟨rfl, b2⟩
  have B2 := b1.trans (b2.mono b1.size)
  clear b1 b2 c0 c2
  go_wp2_with fail
  refine (c4 _).mono ?_; rintro e w3 ⟨rfl, b3⟩
  have B3 := B2.trans (b3.mono B2.size)
  clear b3 c4 B2
  go_wp2_with fail
  refine (c6 _).mono ?_; rintro e w4 ⟨rfl, b4⟩
  have B4 := B3.trans (b4.mono B3.size)
  clear b4 c6 B3
  subst hw0
  obtain ⟨hc, hf⟩ := bcell4_ B4
  have hz : w.heap.size < w4.heap.size := by have := B4.size; simp at this; omega
  have B5 : Below w.heap.size w w4 := ((Below.refl _ _).alloc (Nat.le_refl _) _).trans (B4.mono (by simp))
  have hz2 := B5.size
  go_wp2
  refine box4_ (b := w.heap.size) (box4_is rfl hc) B5 (Nat.le_refl _) fun w9 x0 x1 x2 x3 B9 _ _ => ?_
  refine bodyPost_ret (v := .agg #[.int .u16 v0, .int .u16 v2, .int .u16 v4, .int .u16 v6]) (by simp [results, Try.results18, go_sem, x0, x1, x2, x3]) rfl ?_
  exact ⟨rfl, B9⟩
theorem infoStr_ : (Try.prog.info? 9).map (fun i => (i.zero, i.size, i.bytes)) = some (some (.string ⟨#[]⟩), 1, 16) := by kernel_rfl
/-- How many bytes the first so many texts have. -/
def szT (ss : List ByteArray) (i : Nat) : Nat := ((ss.take i).map ByteArray.size).sum
theorem szT_zero (ss : List ByteArray) : szT ss 0 = 0 := rfl
theorem szT_succ (ss : List ByteArray) (i : Nat) (h : i < ss.length) : szT ss (i + 1) = szT ss i + (ss.getD i ByteArray.empty).size := by
  unfold szT
  rw [take_snoc_getB ss i h]
  simp
theorem szT_le (ss : List ByteArray) : ∀ (d i : Nat), i + d = ss.length → szT ss i ≤ szT ss ss.length
  | 0, i, h => by rw [show i = ss.length by omega]; exact Nat.le_refl _
  | d + 1, i, h => by
    have h1 := szT_succ ss i (by omega)
    have h2 := szT_le ss d (i + 1) (by omega)
    omega
/-- The ends, as they are summed; and what stands behind them. -/
def endsB (a b : Int) : ByteArray := strOfNums (wordL [a / 65536, a % 65536]) ++ strOfNums (wordL [b / 65536, b % 65536])
def protB (pr n : Int) : ByteArray := strOfNums (wordL [pr, n % 65536])
theorem endsB_size (a b : Int) : (endsB a b).size = 8 := by unfold endsB; rw [ByteArray.size_append, size_W, size_W]; rfl
theorem protB_size (pr n : Int) : (protB pr n).size = 4 := by unfold protB; rw [size_W]; rfl
/-- A slice of texts that the call made itself, out of its own row. -/
theorem rowS_own {w : World} {base : Nat} {e : TypeId} {v : Value} {n : Nat} {ss : List ByteArray} (h : w.ownsRow base e 1 v n (ss.map Value.string)) (hl : ss.length = n) (hn : 0 < n) (hn2 : n ≤ maxLen) (hs : ∀ s ∈ ss, s.size ≤ maxLen) :
    ∃ g c, v = .slice (some ⟨g, 0, none⟩) n c ∧ base ≤ g ∧ RowS w (some ⟨g, 0, none⟩) n ss := by
  obtain ⟨g, c, rfl, h1, h2⟩ := h.form hn
  refine ⟨g, c, rfl, h1, hl, hs, hn2, .inr ⟨g, 0, rfl, h2, fun t ht => ?_⟩⟩
  rw [Nat.zero_add, h.cellAt t (by omega)]
  simp [List.getD, show t < ss.length by omega]
set_option maxHeartbeats 2000000 in
set_option maxRecDepth 100000 in
theorem udpSummed_ (a b : Int) (x : Option Addr) (m cap : Nat) (ds : List ByteArray) (w : World) (a0 : 0 ≤ a) (a1 : a ≤ 4294967295) (b0 : 0 ≤ b) (b1 : b ≤ 4294967295) (h : RowS w x m ds) (hm : 0 < m) (hm2 : m ≤ 100) (ht : szT ds m ≤ 1000000) :
    Calls Try.prog 24 #[.int .u32 a, .int .u32 b, .slice x m cap] w fun e w' => (∃ g c, e = .returned (.slice (some ⟨g, 0, none⟩) (2 + m) c) ∧ RowS w' (some ⟨g, 0, none⟩) (2 + m) (endsB a b :: protB 17 (szT ds m) :: ds)) ∧ Below w.heap.size w w' := by
  have ROW := Lib.hid h
  have HL := Lib.hid h.1
  obtain ⟨bx, off, rfl, hb, hc⟩ : ∃ b off, x = some ⟨b, off, none⟩ ∧ b < w.heap.size ∧ ∀ t, t < m → w.cell? ⟨b, off + t, none⟩ = some (.string (ds.getD t ByteArray.empty)) := by
    rcases h.2.2.2 with h | h
    · omega
    · exact h
  have HC := Lib.hid hc
  have TOT := Lib.hid ht
  have LE := Lib.hid (fun (i : Nat) (hi : i ≤ m) => show szT ds i ≤ szT ds m by have := szT_le ds (m - i) i (by rw [h.1]; omega); rw [h.1] at this; exact this)
  obtain ⟨T, hT⟩ : ∃ T, T = szT ds m := ⟨_, rfl⟩
  have HT := Lib.hid hT
  rw [← hT] at ht ⊢
  obtain ⟨z, hz⟩ : ∃ z : Int, z = (T : Int) % 65536 := ⟨_, rfl⟩
  have z0 : 0 ≤ z := by omega
  have z1 : z ≤ 65535 := by omega
  have e1 : (T : Int) % 65536 = z := hz.symm
  have e2 : IntKind.u16.wrap (T : Int) = z := by rw [IntKind.wrap_u16]; exact e1
  have ca := fun u => put32 a u a0 a1
  have cb := fun u => put32 b u b0 b1
  have cw : ∀ u (k : Nat), k < u.heap.size → u.cell? ⟨k, 0, none⟩ = some (.int .u16 17) → u.cell? ⟨k, 1, none⟩ = some (.int .u16 z) → Calls Try.prog 21 #[.slice (some ⟨k, 0, none⟩) 2 2] u fun e w' => e = .returned (.string (strOfNums (wordL [17, z]))) ∧ Below u.heap.size u w' :=
    fun u k hk h0 h1 => word_any _ 2 2 [17, z] u (row2 hk h0 h1) (by omega) (by intro x hx; simp at hx; omega)
  have EE := Lib.hid (show endsB a b = strOfNums (wordL [a / 65536, a % 65536]) ++ strOfNums (wordL [b / 65536, b % 65536]) from rfl)
  have EP := Lib.hid (show protB 17 T = strOfNums (wordL [17, z]) by unfold protB; rw [hz])
  have ZE := Lib.hid (endsB_size a b)
  have ZP := Lib.hid (protB_size 17 T)
  have q1' : (strOfNums (wordL [a / 65536, a % 65536])).size = 4 := by rw [size_W]; rfl
  have q2' : (strOfNums (wordL [b / 65536, b % 65536])).size = 4 := by rw [size_W]; rfl
  generalize strOfNums (wordL [a / 65536, a % 65536]) = U1 at *
  generalize strOfNums (wordL [b / 65536, b % 65536]) = U2 at *
  generalize strOfNums (wordL [17, z]) = U3 at *
  have q1 : U1.size + U2.size ≤ 9223372036854775807 := by omega
  obtain ⟨i0, hi0, hz0, hz1, hz2⟩ := info_parts infoStr_
  clear hT hz q1' q2' h hc
  go_enter Try.func24, Try.ntmps24
  go_wp2_with fail
  go_loopw [7, 13] (fun v si wr => ∃ i : Nat, i ≤ m ∧ si = .int .i64 i ∧ v = .int .i64 (szT ds i : Nat) ∧ w = wr) (fun _ si _ => m - (intOf si).toNat)
  case atStart => exact ⟨0, Nat.zero_le _, rfl, rfl, rfl⟩
  case round =>
    obtain ⟨i, hi, rfl, rfl, rfl⟩ := hrel
    by_cases hlt : i < m
    · have hcell := HC.out i hlt
      have HN := Lib.hid (szT_succ ds i (by rw [HL.out]; exact hlt))
      have g1 := LE.out (i + 1) (by omega)
      have g2 := TOT.out
      rw [HN.out] at g1
      obtain ⟨s, hs⟩ : ∃ s, s = ds.getD i ByteArray.empty := ⟨_, rfl⟩
      rw [← hs] at hcell HN g1
      clear hs
      obtain ⟨n, hn⟩ : ∃ n, n = szT ds i := ⟨_, rfl⟩
      rw [← hn] at g1 HN ⊢
      have e2 : (n : Int) + (s.size : Int) ≤ 9223372036854775807 := by omega
      clear hn g1 g2
      go_wp2
      go_roundw
      case rel => exact ⟨i + 1, by omega, by go_num, by rw [HN.out]; go_num, by first | rfl | trivial⟩
      case measure => simp [intOf]; omega
    · obtain rfl : m = i := by omega
      rw [← HT.out]
      go_wp2_with fail
      refine (ca _).mono ?_; rintro e w1 ⟨rfl, x1⟩
      go_wp2_with fail
      refine (cb _).mono ?_; rintro e w2 ⟨rfl, x2⟩
      have B2 := x1.trans (x2.mono x1.size)
      clear x1 x2 ca cb
      go_wp2_with fail
      refine (cw _ _ (by simp) (by simp [go_sem]) (by simp [go_sem])).mono ?_; rintro e w3 ⟨rfl, x3⟩
      have B3 : Below w.heap.size w w3 := (B2.alloc B2.size _).trans (x3.mono (by have := B2.size; simp; omega))
      clear x3 B2 cw
      go_wp2_with (at_builtin; refine wpList_append_grows _ rfl _ _ 53 rfl 9 i0 (.string ⟨#[]⟩) 1 16 Try.underlying53 hi0 hz0 hz1 hz2 rfl (by decide) _ 2 2 [.string (U1 ++ U2), .string U3] rfl ?c0 rfl ?c6 ⟨bx, off, none⟩ m cap (ds.map Value.string) rfl ?c1 ?c2 ?c3 ?c7 ?c4 ?c5 ?_)
      case c0 => intro h; cases h
      case c6 =>
        intro b hb j u hj
        obtain rfl := Option.some.inj hb
        match j, hj with
        | 0, hj => obtain rfl := Option.some.inj hj; simp [go_sem]
        | 1, hj => obtain rfl := Option.some.inj hj; simp [go_sem]
      case c1 => simp [HL.out]
      case c2 =>
        intro j u hj
        have hjl : j < ds.length := by
          have := (List.getElem?_eq_some_iff.1 hj).1
          simpa using this
        have hk := HC.out j (by rw [← HL.out]; exact hjl)
        rw [addr_add, (B3.alloc B3.size _).cell hb, hk]
        simp [List.getElem?_eq_getElem hjl] at hj
        rw [← hj]
        simp [List.getD, hjl]
      case c3 => intro u hu; simp at hu; obtain ⟨x, _, rfl⟩ := hu; rfl
      case c7 => omega
      case c4 => unfold maxLen; omega
      case c5 => omega
      intro v w4 hown hgrow
      have B4 : Below w.heap.size w w4 := (B3.alloc B3.size _).grown (row := none) hgrow (B3.alloc B3.size _).size (fun k h => by cases h)
      rw [← EE.out, ← EP.out] at hown
      have hr := HL.out
      have hs := ROW.out.2.1
      obtain ⟨g, c, rfl, _, hR⟩ := rowS_own (ss := endsB a b :: protB 17 T :: ds) hown (by simp; omega) (by omega) (by unfold maxLen; omega) (by
        intro s h
        rcases List.mem_cons.1 h with h | h
        · rw [h, ZE.out]; unfold maxLen; omega
        rcases List.mem_cons.1 h with h | h
        · rw [h, ZP.out]; unfold maxLen; omega
        · exact hs s h)
      clear hown hgrow hr hs B3
      go_wp2
      go_ret
      exact ⟨⟨g, c, rfl, hR⟩, B4⟩
end Go.Proofs.Ytkfbkdgfpipdkaa
