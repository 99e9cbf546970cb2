/- Texts of this proof, together: RulKM, RulKN, RulKO, RulKR, RulKS, RulKT, RulKU. -/
import Derived.Test.YtoogegpkgohffaaSg
import Derived.Test.YtoogegpkgohffaaSd
import Derived.Test.YtoogegpkgohffaaSc
import Derived.Test.YtoogegpkgohffaaSf
import Derived.Test.YtoogegpkgohffaaSi
import Derived.Test.YtoogegpkgohffaaTc
namespace Go.Proofs.Ytoogegpkgohffaa
set_option linter.unusedVariables false
set_option linter.unusedSimpArgs false
open Go.ChangeShapes Go.WideShapes Go.ChangeAt Go.RowKit Go.PlainAid
attribute [local go_sem ↓] Go.wp_at_zero Go.wp_at_succ
theorem RowC.at {w : World} {B : Nat} {a : Option Addr} {n cap : Nat} {rs : List Ru} (h : RowC w B (.slice a n cap) rs) : n = rs.length ∧ RulesAt w a rs := by
  rcases h.kinds with ⟨e, rfl⟩ | ⟨g, c, e⟩
  · simp only [Value.slice.injEq] at e
    obtain ⟨rfl, rfl, rfl⟩ := e
    exact ⟨rfl, .inl rfl⟩
  · simp only [Value.slice.injEq] at e
    obtain ⟨rfl, rfl, rfl⟩ := e
    obtain ⟨cur, hn, _, hlt, hg, _, _, hcs, hcur⟩ := h.get
    refine ⟨rfl, RulesAt.made hlt fun q u hq => ?_⟩
    have hl : q < rs.length * 11 := by
      have := (List.getElem?_eq_some_iff.1 hq).1
      rwa [valsR_len] at this
    have := hcur q hl
    rw [hq] at this
    simp only [World.cell?]
    rw [hg]
    simpa using this
theorem RowC.kept {w w' : World} {B : Nat} {v : Value} {rs : List Ru} (h : RowC w B v rs) (hs : w.heap.size ≤ w'.heap.size) (hb : ∀ g, v.ownBlock = some g → w'.heap[g]? = w.heap[g]?) : RowC w' B v rs := by
  obtain ⟨hl, h | ⟨g, cap, cur, rfl, hB, hg, hr⟩⟩ := h
  · exact ⟨hl, .inl h⟩
  · exact ⟨hl, .inr ⟨g, cap, cur, rfl, hB, (hb g rfl).trans hg, hr⟩⟩
theorem RowC.lt {w : World} {B : Nat} {v : Value} {rs : List Ru} (h : RowC w B v rs) (g : Nat) (hg : v.ownBlock = some g) : B ≤ g ∧ g < w.heap.size := World.ownsRow.lt h g hg
theorem RowC.on {w w' : World} {B : Nat} {v : Value} {rs : List Ru} (h : RowC w B v rs) (hb : Below w.heap.size w w') : RowC w' B v rs := h.kept hb.size fun g hg => hb.block g (h.lt g hg).2

set_option maxHeartbeats 1000000 in
set_option maxRecDepth 100000 in
theorem clone_ (B : Nat) (v : Value) (rs : List Ru) (w : World) (hR : RowC w B v rs) (hl : rs.length ≤ 1000) :
    Calls Try.prog 47 #[v] w fun e w' => ∃ v', e = .returned v' ∧ RowC w' w.heap.size v' rs ∧ Below w.heap.size w w' := by
  have qn : ∀ (w : World) (a : Option Addr) (n c n' c' : Nat), (binOp .eql 50 (.slice a n c) (.slice none n' c')).run Try.prog w = .ok (.bool a.isNone) w := fun w a n c n' c' => Lib.run_eql_slice_nil w _ _ a n c n' c' Try.underlying50
  rcases hR.kinds with ⟨rfl, rfl⟩ | ⟨g, c, rfl⟩
  · go_enter Try.func47, Try.ntmps47
    go_wp2
    go_ret
    exact ⟨_, rfl, World.ownsRow_nil _ _ _ _, Below.refl _ _⟩
  · obtain ⟨i0, hi0, hz0, hz1, hz2⟩ := rule_info
    have mxl : maxLen = 9223372036854775807 := rfl
    have hat := hR.at.2
    have hq : ∀ j u, (valsR rs)[j]? = some u → (w.alloc (.cells #[] 42)).cell? ((⟨g, 0, none⟩ : Addr).add j) = some u := by
      intro j u hj
      rw [Addr.add_lit, Nat.zero_add]
      exact Lib.cell?_alloc_some _ (hat.each j u hj)
    have hone := vals_one rs
    have hlen := valsR_len rs
    have HL := Lib.hid hl
    clear hat hR
    obtain ⟨n, hn⟩ : ∃ n, n = rs.length := ⟨_, rfl⟩
    rw [← hn] at hl hlen ⊢
    have HN := Lib.hid hn
    clear hn HL
    go_enter Try.func47, Try.ntmps47
    go_wp2_with (at_builtin; refine wpList_append_own _ rfl _ _ 50 rfl w.heap.size 42 i0 _ 11 64 Try.underlying50 hi0 hz0 hz1 hz2 rfl (by omega) _ _ _ rfl (World.ownsRow_made w #[] 0 (Nat.le_refl _) (Nat.zero_le _) (by simp)) ⟨g, 0, none⟩ n c (valsR rs) rfl hlen hq hone (by rw [Nat.zero_add, mxl]; omega) (by rw [Nat.zero_add]; omega) (by simp) ?_)
    intro v' w1 hown hgrow hnil
    go_wp2
    go_ret
    refine ⟨v', rfl, ?_, ?_⟩
    · show w1.ownsRow _ _ _ v' rs.length (valsR rs)
      rw [← HN.out]
      simpa using hown
    · exact ((Below.refl _ w).alloc (Nat.le_refl _) _).grown hgrow (by simp) (by intro k hk; simp [Value.ownBlock] at hk; omega)
/-- What a predicate tells of a table's rules, in whatever world is behind; it may make memory. -/
def Pred (g : Nat) (lb : Array Value) (p : Ru → Bool) (rs : List Ru) (w : World) : Prop := ∀ (W : World) (r : Ru), Below w.heap.size w W → r ∈ rs → Calls Try.prog g (#[.agg #[.int .i64 r.k, .int .u8 r.pr, .int .u32 (r.si : Int), .int .i64 r.sb, .int .u32 (r.di : Int), .int .i64 r.db, .int .u32 (r.ex : Int), .int .u16 r.fr, .int .u16 r.to, .int .u32 (r.ii : Int), .int .u16 r.ip]] ++ lb) W fun e w' => e = .returned (.bool (p r)) ∧ Below W.heap.size W w'
theorem Pred.on {g : Nat} {lb : Array Value} {p : Ru → Bool} {rs : List Ru} {w w' : World} (h : Pred g lb p rs w) (hb : Below w.heap.size w w') : Pred g lb p rs w' := fun W r hW hr => h W r (hb.trans (hW.mono hb.size)) hr
/-- The place of the first rule that fits. -/
def placeR (rs : List Ru) (p : Ru → Bool) : Int := if rs.any p = true then ((rs.findIdx p : Nat) : Int) else -1
theorem placeR_hit {rs : List Ru} {p : Ru → Bool} {i : Nat} (h : i < rs.length) (hn : ∀ j, j < i → p (rs.getD j Ru.zero) = false) (hf : p (rs.getD i Ru.zero) = true) : placeR rs p = (i : Int) ∧ hitRu rs p = true ∧ findRu rs p = rs.getD i Ru.zero := by
  have k := first_fit h rfl hn hf
  refine ⟨?_, k.2, k.1⟩
  have ha : rs.any p = true := k.2
  unfold placeR
  rw [if_pos ha]
  congr 1
  refine (List.findIdx_eq h).2 ⟨?_, fun j hj => ?_⟩
  · rw [List.getD_eq_getElem?_getD, List.getElem?_eq_getElem h] at hf
    simpa using hf
  · have := hn j hj
    rw [List.getD_eq_getElem?_getD, List.getElem?_eq_getElem (by omega)] at this
    simpa using this
theorem placeR_none {rs : List Ru} {p : Ru → Bool} (hn : ∀ j, j < rs.length → p (rs.getD j Ru.zero) = false) : placeR rs p = -1 ∧ hitRu rs p = false ∧ findRu rs p = Ru.zero := by
  have k := none_fits (Nat.le_refl _) hn
  refine ⟨?_, k.2, k.1⟩
  have ha : rs.any p = false := k.2
  unfold placeR
  rw [ha]
  rfl
set_option maxHeartbeats 4000000 in
set_option maxRecDepth 100000 in
theorem index_ (g : Nat) (lb : Array Value) (p : Ru → Bool) (a : Option Addr) (n cap : Nat) (rs : List Ru) (w : World) (eg : ∀ args w, (callFunc g args).run Try.prog w = .ok (.enter g args) w) (hn : n = rs.length) (hR : RulesAt w a rs) (hl : rs.length ≤ 1000) (hp : Pred g lb p rs w) :
    Calls Try.prog 64 #[.slice a n cap, .func (.func g) #[] lb] w fun e w' => e = .returned (.int .i64 (placeR rs p)) ∧ Below w.heap.size w w' := by
  subst hn
  have RZ := Lib.hid hR
  have HL := Lib.hid hl
  have HP := Lib.hid hp
  clear hR hl hp
  go_enter Try.func64, Try.ntmps64
  go_wp2
  go_loopw [5, 8] (fun s5 s8 wr => ∃ i : Nat, i ≤ rs.length ∧ s8 = .int .i64 (i : Int) ∧ Below w.heap.size w wr ∧ Hid (∀ j, j < i → p (rs.getD j Ru.zero) = false)) (fun _ s8 _ => rs.length - (intOf s8).toNat)
  case atStart => exact ⟨0, Nat.zero_le _, rfl, Below.refl _ _, fun j hj => by omega⟩
  case round =>
    obtain ⟨i, hi, rfl, bb, HF⟩ := hrel
    by_cases hlt : i < rs.length
    · have HI := Lib.hid hlt
      have e10 : decide ((i : Int) < (rs.length : Int)) = true := by simp; omega
      have e11 : decide (i < rs.length) = true := by simp; omega
      have e12 : (i : Int) < (rs.length : Int) := by omega
      have e13 : (i : Int) + 1 ≤ 100000 := by have := HL.out; omega
      obtain ⟨b, ha, hb, hc⟩ : ∃ b, a = some ⟨b, 0, none⟩ ∧ b < wr.heap.size ∧ _ := by
        rcases (RZ.out.on bb) with h | h
        · omega
        · exact h
      subst ha
      obtain ⟨c0, c1, c2, c3, c4, c5, c6, c7, c8, c9, c10⟩ := hc i hlt
      have hm : rs.getD i Ru.zero ∈ rs := by simp [List.getD, hlt]
      obtain ⟨r, hr⟩ : ∃ r, r = rs.getD i Ru.zero := ⟨_, rfl⟩
      rw [← hr] at c0 c1 c2 c3 c4 c5 c6 c7 c8 c9 c10 hm
      have hcall := HP.out wr r bb hm
      have HR := Lib.hid hr
      clear hr hc hi hlt hm
      cases hq : p r with
      | true =>
        rw [hq] at hcall
        have HV : Hid (placeR rs p = (i : Int)) := (placeR_hit HI.out HF.out (by rw [← HR.out]; exact hq)).1
        clear hq
        go_wp2_with (go_at_fn g; refine hcall.mono ?_; rintro e w' ⟨rfl, hb'⟩)
        go_ret
        exact ⟨by rw [HV.out]; rfl, bb.trans (hb'.mono bb.size)⟩
      | false =>
        rw [hq] at hcall
        have HQ := Lib.hid hq
        clear hq
        go_wp2_with (go_at_fn g; refine hcall.mono ?_; rintro e w' ⟨rfl, hb'⟩)
        have BN := bb.trans (hb'.mono bb.size)
        go_roundw
        case rel =>
          refine ⟨i + 1, HI.out, by go_num, BN, fun j hj => ?_⟩
          by_cases e : j = i
          · rw [e, ← HR.out]; exact HQ.out
          · exact HF.out j (by omega)
        case measure => have := HI.out; simp [intOf]; omega
    · have e10 : decide ((i : Int) < (rs.length : Int)) = false := by simp; omega
      have e11 : decide (i < rs.length) = false := by simp; omega
      have HV : Hid (placeR rs p = -1) := (placeR_none (fun j hj => HF.out j (by omega))).1
      go_wp2
      go_ret
      exact ⟨by rw [HV.out]; rfl, bb⟩
theorem least (P : Nat → Bool) : ∀ n, (∃ i, i < n ∧ P i = true ∧ ∀ j, j < i → P j = false) ∨ ∀ j, j < n → P j = false
  | 0 => .inr fun j hj => by omega
  | n + 1 => by
    rcases least P n with ⟨i, hi, h1, h2⟩ | h
    · exact .inl ⟨i, by omega, h1, h2⟩
    · cases hq : P n with
      | true => exact .inl ⟨n, by omega, hq, h⟩
      | false =>
        refine .inr fun j hj => ?_
        by_cases e : j = n
        · rw [e]; exact hq
        · exact h j (by omega)
set_option maxHeartbeats 4000000 in
set_option maxRecDepth 100000 in
theorem firstC_ (g : Nat) (lb : Array Value) (f : Ru → Bool) (t : Tm) (p cap : Nat) (a : Option Addr) (w : World) (eg : ∀ args w, (callFunc g args).run Try.prog w = .ok (.enter g args) w) (T0 : Box5 w p (.bool true) (.int .u32 (t.own : Int)) (.int .u32 (t.ip : Int)) (.int .i64 t.bits) (.slice a t.rs.length cap)) (R0 : RulesAt w a t.rs) (hl : t.rs.length ≤ 1000) (hp : Pred g lb f t.rs w) :
    Calls Try.prog 41 #[.pointer (some ⟨p, 0, none⟩), .func (.func g) #[] lb] w fun e w' => e = .returned (.tuple #[.agg #[.int .i64 (findRu t.rs f).k, .int .u8 (findRu t.rs f).pr, .int .u32 ((findRu t.rs f).si : Int), .int .i64 (findRu t.rs f).sb, .int .u32 ((findRu t.rs f).di : Int), .int .i64 (findRu t.rs f).db, .int .u32 ((findRu t.rs f).ex : Int), .int .u16 (findRu t.rs f).fr, .int .u16 (findRu t.rs f).to, .int .u32 ((findRu t.rs f).ii : Int), .int .u16 (findRu t.rs f).ip], .bool (hitRu t.rs f)]) ∧ Below w.heap.size w w' := by
  have RZ := Lib.hid R0
  have HP := Lib.hid hp
  have n := fun (u : World) (T : Box5 u p (.bool true) (.int .u32 (t.own : Int)) (.int .u32 (t.ip : Int)) (.int .i64 t.bits) (.slice a t.rs.length cap)) => none_ t p _ u T
  have c := fun (u : World) (R : RulesAt u a t.rs) (hP : Pred g lb f t.rs u) => index_ g lb f a t.rs.length cap t.rs u eg rfl R hl hP
  have HL := Lib.hid hl
  clear R0 hp eg hl
  generalize hG : t.rs = rs at *
  rcases least (fun i => f (rs.getD i Ru.zero)) rs.length with ⟨i, hi, h1, h2⟩ | h
  · have k := placeR_hit hi h2 h1
    have K := Lib.hid k
    rw [k.1] at c
    have e1 : ¬ ((i : Int) < 0) := by omega
    have e2 : (i : Int) < (rs.length : Int) := by omega
    have HI := Lib.hid hi
    clear k h1 h2
    go_enter Try.func41, Try.ntmps41
    have B1 := Below.refl w.heap.size w
    go_upto_region 1 with fail
    have T_2 := T0.past (o := (.cells #[.int .i64 0, .int .u8 0, .int .u32 0, .int .i64 0, .int .u32 0, .int .i64 0, .int .u32 0, .int .u16 0, .int .u16 0, .int .u32 0, .int .u16 0] 42))
    have Z_3 := Box11.make w (.int .i64 0) (.int .u8 0) (.int .u32 0) (.int .i64 0) (.int .u32 0) (.int .i64 0) (.int .u32 0) (.int .u16 0) (.int .u16 0) (.int .u32 0) (.int .u16 0) 42
    have B4 := B1.alloc B1.size (.cells #[.int .i64 0, .int .u8 0, .int .u32 0, .int .i64 0, .int .u32 0, .int .i64 0, .int .u32 0, .int .u16 0, .int .u16 0, .int .u32 0, .int .u16 0] 42)
    clear T0 B1
    have fzZ_5 : ∀ i, (w.alloc (.cells #[.int .i64 0, .int .u8 0, .int .u32 0, .int .i64 0, .int .u32 0, .int .i64 0, .int .u32 0, .int .u16 0, .int .u16 0, .int .u32 0, .int .u16 0] 42)).frozen? ⟨w.heap.size, i, none⟩ = false := by intro i; simp [go_sem]
    obtain ⟨u1, hu1⟩ : ∃ x_ : World, x_ = w.alloc (.cells #[.int .i64 0, .int .u8 0, .int .u32 0, .int .i64 0, .int .u32 0, .int .i64 0, .int .u32 0, .int .u16 0, .int .u16 0, .int .u32 0, .int .u16 0] 42) := ⟨_, rfl⟩
    rw [← hu1] at T_2 Z_3 fzZ_5 B4 ⊢
    clear hu1
    obtain ⟨_, t1_0, t1_1, t1_2, t1_3, t1_4⟩ := id T_2
    go_wp2_with fail
    refine (n _ T_2).mono ?_; rintro e w2 ⟨rfl, x2⟩
    have fzZ_6 : ∀ i, w2.frozen? ⟨w.heap.size, i, none⟩ = false := fun i => (x2.frozen (p := ⟨_, i, none⟩) Z_3.1).trans (fzZ_5 i)
    clear fzZ_5
    have T_7 := T_2.on x2
    have Z_8 := Z_3.on x2
    have B9 := B4.trans (x2.mono B4.size)
    clear t1_0 t1_1 t1_2 t1_3 t1_4 T_2 Z_3 B4 x2
    obtain ⟨_, t2_0, t2_1, t2_2, t2_3, t2_4⟩ := id T_7
    go_wp2_with fail
    refine (c _ (RZ.out.on B9) (HP.out.on B9)).mono ?_; rintro e w3 ⟨rfl, x3⟩
    have fzZ_10 : ∀ i, w3.frozen? ⟨w.heap.size, i, none⟩ = false := fun i => (x3.frozen (p := ⟨_, i, none⟩) Z_8.1).trans (fzZ_6 i)
    clear fzZ_6
    have T_11 := T_7.on x3
    have Z_12 := Z_8.on x3
    have B13 := B9.trans (x3.mono B9.size)
    clear t2_0 t2_1 t2_2 t2_3 t2_4 T_7 Z_8 B9 x3
    obtain ⟨b, ha, hb, hc⟩ : ∃ b, a = some ⟨b, 0, none⟩ ∧ b < w3.heap.size ∧ _ := by
      rcases (RZ.out.on B13) with h | h
      · omega
      · exact h
    subst ha
    obtain ⟨c0, c1, c2, c3, c4, c5, c6, c7, c8, c9, c10⟩ := hc i hi
    obtain ⟨r, hr⟩ : ∃ r, r = rs.getD i Ru.zero := ⟨_, rfl⟩
    rw [← hr] at c0 c1 c2 c3 c4 c5 c6 c7 c8 c9 c10
    have HR := Lib.hid hr
    clear hr hc
    obtain ⟨_, t3_0, t3_1, t3_2, t3_3, t3_4⟩ := id T_11
    obtain ⟨_, z4_0, z4_1, z4_2, z4_3, z4_4, z4_5, z4_6, z4_7, z4_8, z4_9, z4_10⟩ := id Z_12
    go_wp2
    refine box11_ (b := w.heap.size) Z_12.some B13 (Nat.le_refl _) fun X x0_ x1_ x2_ x3_ x4_ x5_ x6_ x7_ x8_ x9_ x10_ BX _ _ => ?_
    refine bodyPost_ret (v := .tuple #[.agg #[.int .i64 r.k, .int .u8 r.pr, .int .u32 (r.si : Int), .int .i64 r.sb, .int .u32 (r.di : Int), .int .i64 r.db, .int .u32 (r.ex : Int), .int .u16 r.fr, .int .u16 r.to, .int .u32 (r.ii : Int), .int .u16 r.ip], .bool true]) (by simp [results, Try.results41, go_sem, x0_, x1_, x2_, x3_, x4_, x5_, x6_, x7_, x8_, x9_, x10_]) rfl ?_
    rw [K.out.2.1, K.out.2.2, ← HR.out]
    exact ⟨rfl, BX⟩
  · have k := placeR_none h
    have K := Lib.hid k
    rw [k.1] at c
    have e1 : decide ((-1 : Int) < 0) = true := by decide
    clear k h
    go_enter Try.func41, Try.ntmps41
    have B1 := Below.refl w.heap.size w
    go_upto_region 1 with fail
    have T_2 := T0.past (o := (.cells #[.int .i64 0, .int .u8 0, .int .u32 0, .int .i64 0, .int .u32 0, .int .i64 0, .int .u32 0, .int .u16 0, .int .u16 0, .int .u32 0, .int .u16 0] 42))
    have Z_3 := Box11.make w (.int .i64 0) (.int .u8 0) (.int .u32 0) (.int .i64 0) (.int .u32 0) (.int .i64 0) (.int .u32 0) (.int .u16 0) (.int .u16 0) (.int .u32 0) (.int .u16 0) 42
    have B4 := B1.alloc B1.size (.cells #[.int .i64 0, .int .u8 0, .int .u32 0, .int .i64 0, .int .u32 0, .int .i64 0, .int .u32 0, .int .u16 0, .int .u16 0, .int .u32 0, .int .u16 0] 42)
    clear T0 B1
    have fzZ_5 : ∀ i, (w.alloc (.cells #[.int .i64 0, .int .u8 0, .int .u32 0, .int .i64 0, .int .u32 0, .int .i64 0, .int .u32 0, .int .u16 0, .int .u16 0, .int .u32 0, .int .u16 0] 42)).frozen? ⟨w.heap.size, i, none⟩ = false := by intro i; simp [go_sem]
    obtain ⟨u1, hu1⟩ : ∃ x_ : World, x_ = w.alloc (.cells #[.int .i64 0, .int .u8 0, .int .u32 0, .int .i64 0, .int .u32 0, .int .i64 0, .int .u32 0, .int .u16 0, .int .u16 0, .int .u32 0, .int .u16 0] 42) := ⟨_, rfl⟩
    rw [← hu1] at T_2 Z_3 fzZ_5 B4 ⊢
    clear hu1
    obtain ⟨_, t1_0, t1_1, t1_2, t1_3, t1_4⟩ := id T_2
    go_wp2_with fail
    refine (n _ T_2).mono ?_; rintro e w2 ⟨rfl, x2⟩
    have fzZ_6 : ∀ i, w2.frozen? ⟨w.heap.size, i, none⟩ = false := fun i => (x2.frozen (p := ⟨_, i, none⟩) Z_3.1).trans (fzZ_5 i)
    clear fzZ_5
    have T_7 := T_2.on x2
    have Z_8 := Z_3.on x2
    have B9 := B4.trans (x2.mono B4.size)
    clear t1_0 t1_1 t1_2 t1_3 t1_4 T_2 Z_3 B4 x2
    obtain ⟨_, t2_0, t2_1, t2_2, t2_3, t2_4⟩ := id T_7
    go_wp2_with fail
    refine (c _ (RZ.out.on B9) (HP.out.on B9)).mono ?_; rintro e w3 ⟨rfl, x3⟩
    have fzZ_10 : ∀ i, w3.frozen? ⟨w.heap.size, i, none⟩ = false := fun i => (x3.frozen (p := ⟨_, i, none⟩) Z_8.1).trans (fzZ_6 i)
    clear fzZ_6
    have T_11 := T_7.on x3
    have Z_12 := Z_8.on x3
    have B13 := B9.trans (x3.mono B9.size)
    clear t2_0 t2_1 t2_2 t2_3 t2_4 T_7 Z_8 B9 x3
    obtain ⟨_, t3_0, t3_1, t3_2, t3_3, t3_4⟩ := id T_11
    obtain ⟨_, z4_0, z4_1, z4_2, z4_3, z4_4, z4_5, z4_6, z4_7, z4_8, z4_9, z4_10⟩ := id Z_12
    go_wp2
    refine box11_ (b := w.heap.size) Z_12.some B13 (Nat.le_refl _) fun X x0_ x1_ x2_ x3_ x4_ x5_ x6_ x7_ x8_ x9_ x10_ BX _ _ => ?_
    refine bodyPost_ret (v := .tuple #[.agg #[.int .i64 0, .int .u8 0, .int .u32 0, .int .i64 0, .int .u32 0, .int .i64 0, .int .u32 0, .int .u16 0, .int .u16 0, .int .u32 0, .int .u16 0], .bool false]) (by simp [results, Try.results41, go_sem, x0_, x1_, x2_, x3_, x4_, x5_, x6_, x7_, x8_, x9_, x10_]) rfl ?_
    rw [K.out.2.1, K.out.2.2]
    exact ⟨rfl, BX⟩
/-- A box of one cell. -/
def Box1 (w : World) (b : Nat) (v0 : Value) : Prop := b < w.heap.size ∧ w.cell? ⟨b, 0, none⟩ = some v0
theorem Box1.on {w w' : World} {b : Nat} {v0 : Value} (h : Box1 w b v0) (hb : Below w.heap.size w w') : Box1 w' b v0 := ⟨Nat.lt_of_lt_of_le h.1 hb.size, (hb.cell (p := ⟨b, 0, none⟩) h.1).trans h.2⟩
theorem Box1.make (w : World) (v0 : Value) (t : TypeId) : Box1 (w.alloc (.cells #[v0] t)) w.heap.size v0 := ⟨by simp, by simp [go_sem]⟩
theorem Box1.past {w : World} {o : Obj} {b : Nat} {v0 : Value} (h : Box1 w b v0) : Box1 (w.alloc o) b v0 := h.on ((Below.refl _ _).alloc (Nat.le_refl _) _)
set_option maxHeartbeats 4000000 in
set_option maxRecDepth 100000 in
theorem staticP_ (pr ep : Int) (ea b1 b2 : Nat) (rs : List Ru) (w : World) (C0 : Box1 w b1 (.int .u8 pr)) (E0 : Box2 w b2 (.int .u32 (ea : Int)) (.int .u16 ep)) : Pred 54 #[.pointer (some ⟨b1, 0, none⟩), .pointer (some ⟨b2, 0, none⟩)] (fitS pr ea ep) rs w := by
  intro W r hb _
  have C1 := C0.on hb
  have E1 := E0.on hb
  show Calls Try.prog 54 #[.agg #[.int .i64 r.k, .int .u8 r.pr, .int .u32 (r.si : Int), .int .i64 r.sb, .int .u32 (r.di : Int), .int .i64 r.db, .int .u32 (r.ex : Int), .int .u16 r.fr, .int .u16 r.to, .int .u32 (r.ii : Int), .int .u16 r.ip], .pointer (some ⟨b1, 0, none⟩), .pointer (some ⟨b2, 0, none⟩)] W _
  clear C0 E0 hb
  have m1 := fun u => static_ r u
  have m2 := fun u => front_ r u
  obtain ⟨z1, p1, q1, l1⟩ := eqi_ r.k 3
  obtain ⟨z2, p2, q2, l2⟩ := eqi_ r.pr pr
  obtain ⟨z3, p3, q3, l3⟩ := eqn_ r.ex ea
  obtain ⟨z4, p4, q4, l4⟩ := eqi_ r.fr ep
  rw [l1] at m1
  have HV : Hid (fitS pr ea ep r = (z1 && z2 && z3 && z4)) := by show _ = _; unfold fitS; rw [l1, l2, l3, l4]
  clear l1 l2 l3 l4 p1 q1
  have key : (z1 = false) ∨ (z1 = true ∧ z2 = false) ∨ (z1 = true ∧ z2 = true ∧ z3 = false) ∨ (z1 = true ∧ z2 = true ∧ z3 = true ∧ z4 = false) ∨ (z1 = true ∧ z2 = true ∧ z3 = true ∧ z4 = true) := by cases z1 <;> cases z2 <;> cases z3 <;> cases z4 <;> simp
  rcases key with rfl | ⟨rfl, rfl⟩ | ⟨rfl, rfl, rfl⟩ | ⟨rfl, rfl, rfl, rfl⟩ | ⟨rfl, rfl, rfl, rfl⟩
  all_goals
    simp only [Bool.not_true, Bool.not_false, Bool.and_true, Bool.and_false, Bool.true_and, Bool.false_and, Bool.or_true, Bool.or_false, Bool.true_or, Bool.false_or] at HV
    go_enter Try.func54, Try.ntmps54
    have B21 := Below.refl W.heap.size W
    go_upto_region 1 with fail
    have C_22 := C1.past (o := (.cells #[.int .i64 r.k, .int .u8 r.pr, .int .u32 (r.si : Int), .int .i64 r.sb, .int .u32 (r.di : Int), .int .i64 r.db, .int .u32 (r.ex : Int), .int .u16 r.fr, .int .u16 r.to, .int .u32 (r.ii : Int), .int .u16 r.ip] 42))
    have E_23 := E1.past (o := (.cells #[.int .i64 r.k, .int .u8 r.pr, .int .u32 (r.si : Int), .int .i64 r.sb, .int .u32 (r.di : Int), .int .i64 r.db, .int .u32 (r.ex : Int), .int .u16 r.fr, .int .u16 r.to, .int .u32 (r.ii : Int), .int .u16 r.ip] 42))
    have R_24 := Box11.make W (.int .i64 r.k) (.int .u8 r.pr) (.int .u32 (r.si : Int)) (.int .i64 r.sb) (.int .u32 (r.di : Int)) (.int .i64 r.db) (.int .u32 (r.ex : Int)) (.int .u16 r.fr) (.int .u16 r.to) (.int .u32 (r.ii : Int)) (.int .u16 r.ip) 42
    have B25 := B21.alloc B21.size (.cells #[.int .i64 r.k, .int .u8 r.pr, .int .u32 (r.si : Int), .int .i64 r.sb, .int .u32 (r.di : Int), .int .i64 r.db, .int .u32 (r.ex : Int), .int .u16 r.fr, .int .u16 r.to, .int .u32 (r.ii : Int), .int .u16 r.ip] 42)
    clear C1 E1 B21
    obtain ⟨u1, hu1⟩ : ∃ x_ : World, x_ = W.alloc (.cells #[.int .i64 r.k, .int .u8 r.pr, .int .u32 (r.si : Int), .int .i64 r.sb, .int .u32 (r.di : Int), .int .i64 r.db, .int .u32 (r.ex : Int), .int .u16 r.fr, .int .u16 r.to, .int .u32 (r.ii : Int), .int .u16 r.ip] 42) := ⟨_, rfl⟩
    rw [← hu1] at C_22 E_23 R_24 B25 ⊢
    clear hu1
    obtain ⟨zr, gr0, gr1, gr2, gr3, gr4, gr5, gr6, gr7, gr8, gr9, gr10⟩ := id R_24
    have Fr0 : ∀ x : Later u1.heap.size u1, x.u.cell? ⟨W.heap.size, 0, none⟩ = some (.int .i64 r.k) := fun x => x.block zr gr0
    have Fr1 : ∀ x : Later u1.heap.size u1, x.u.cell? ⟨W.heap.size, 1, none⟩ = some (.int .u8 r.pr) := fun x => x.block zr gr1
    have Fr2 : ∀ x : Later u1.heap.size u1, x.u.cell? ⟨W.heap.size, 2, none⟩ = some (.int .u32 (r.si : Int)) := fun x => x.block zr gr2
    have Fr3 : ∀ x : Later u1.heap.size u1, x.u.cell? ⟨W.heap.size, 3, none⟩ = some (.int .i64 r.sb) := fun x => x.block zr gr3
    have Fr4 : ∀ x : Later u1.heap.size u1, x.u.cell? ⟨W.heap.size, 4, none⟩ = some (.int .u32 (r.di : Int)) := fun x => x.block zr gr4
    have Fr5 : ∀ x : Later u1.heap.size u1, x.u.cell? ⟨W.heap.size, 5, none⟩ = some (.int .i64 r.db) := fun x => x.block zr gr5
    have Fr6 : ∀ x : Later u1.heap.size u1, x.u.cell? ⟨W.heap.size, 6, none⟩ = some (.int .u32 (r.ex : Int)) := fun x => x.block zr gr6
    have Fr7 : ∀ x : Later u1.heap.size u1, x.u.cell? ⟨W.heap.size, 7, none⟩ = some (.int .u16 r.fr) := fun x => x.block zr gr7
    have Fr8 : ∀ x : Later u1.heap.size u1, x.u.cell? ⟨W.heap.size, 8, none⟩ = some (.int .u16 r.to) := fun x => x.block zr gr8
    have Fr9 : ∀ x : Later u1.heap.size u1, x.u.cell? ⟨W.heap.size, 9, none⟩ = some (.int .u32 (r.ii : Int)) := fun x => x.block zr gr9
    have Fr10 : ∀ x : Later u1.heap.size u1, x.u.cell? ⟨W.heap.size, 10, none⟩ = some (.int .u16 r.ip) := fun x => x.block zr gr10
    clear gr0 gr1 gr2 gr3 gr4 gr5 gr6 gr7 gr8 gr9 gr10
    obtain ⟨zc, gc0⟩ := id C_22
    have Fc0 : ∀ x : Later u1.heap.size u1, x.u.cell? ⟨b1, 0, none⟩ = some (.int .u8 pr) := fun x => x.block zc gc0
    clear gc0
    obtain ⟨ze, ge0, ge1⟩ := id E_23
    have Fe0 : ∀ x : Later u1.heap.size u1, x.u.cell? ⟨b2, 0, none⟩ = some (.int .u32 (ea : Int)) := fun x => x.block ze ge0
    have Fe1 : ∀ x : Later u1.heap.size u1, x.u.cell? ⟨b2, 1, none⟩ = some (.int .u16 ep) := fun x => x.block ze ge1
    clear ge0 ge1
    refine region_later (B := u1.heap.size) (by kernel_rfl) (by kernel_rfl) ?_
    repeat (go_big_quiet_step (first
      | (go_at_call 55; exact later_of _ (Nat.le_refl _) (m1 _))
      | (go_at_call 56; exact later_of _ (Nat.le_refl _) (m2 _))))
    refine later_end fun w2 x2 => ?_
    have C_26 := C_22.on x2
    have E_27 := E_23.on x2
    have R_28 := R_24.on x2
    have B29 := B25.trans (x2.mono B25.size)
    clear Fr0 Fr1 Fr2 Fr3 Fr4 Fr5 Fr6 Fr7 Fr8 Fr9 Fr10 zr Fc0 zc Fe0 Fe1 ze C_22 E_23 R_24 B25 x2
    go_wp2
    go_ret
    rw [HV.out]
    exact ⟨rfl, B29⟩
set_option maxHeartbeats 4000000 in
set_option maxRecDepth 100000 in
theorem ownP_ (pr ep : Int) (ea b1 b2 : Nat) (rs : List Ru) (w : World) (C0 : Box1 w b1 (.int .u8 pr)) (E0 : Box2 w b2 (.int .u32 (ea : Int)) (.int .u16 ep)) : Pred 57 #[.pointer (some ⟨b1, 0, none⟩), .pointer (some ⟨b2, 0, none⟩)] (fitO pr ea ep) rs w := by
  intro W r hb _
  have C1 := C0.on hb
  have E1 := E0.on hb
  show Calls Try.prog 57 #[.agg #[.int .i64 r.k, .int .u8 r.pr, .int .u32 (r.si : Int), .int .i64 r.sb, .int .u32 (r.di : Int), .int .i64 r.db, .int .u32 (r.ex : Int), .int .u16 r.fr, .int .u16 r.to, .int .u32 (r.ii : Int), .int .u16 r.ip], .pointer (some ⟨b1, 0, none⟩), .pointer (some ⟨b2, 0, none⟩)] W _
  clear C0 E0 hb
  have m1 := fun u => static_ r u
  have m2 := fun u => front_ r u
  obtain ⟨z1, p1, q1, l1⟩ := eqi_ r.k 3
  obtain ⟨z2, p2, q2, l2⟩ := eqi_ r.pr pr
  obtain ⟨z3, p3, q3, l3⟩ := eqn_ r.ii ea
  obtain ⟨z4, p4, q4, l4⟩ := eqi_ r.ip ep
  rw [l1] at m1
  have HV : Hid (fitO pr ea ep r = (z1 && z2 && (z3 && z4))) := by show _ = _; unfold fitO; rw [l1, l2, l3, l4]
  clear l1 l2 l3 l4 p1 q1
  have key : (z1 = false) ∨ (z1 = true ∧ z2 = false) ∨ (z1 = true ∧ z2 = true ∧ z3 = false) ∨ (z1 = true ∧ z2 = true ∧ z3 = true ∧ z4 = false) ∨ (z1 = true ∧ z2 = true ∧ z3 = true ∧ z4 = true) := by cases z1 <;> cases z2 <;> cases z3 <;> cases z4 <;> simp
  rcases key with rfl | ⟨rfl, rfl⟩ | ⟨rfl, rfl, rfl⟩ | ⟨rfl, rfl, rfl, rfl⟩ | ⟨rfl, rfl, rfl, rfl⟩
  all_goals
    simp only [Bool.not_true, Bool.not_false, Bool.and_true, Bool.and_false, Bool.true_and, Bool.false_and, Bool.or_true, Bool.or_false, Bool.true_or, Bool.false_or] at HV
    go_enter Try.func57, Try.ntmps57
    have B21 := Below.refl W.heap.size W
    go_upto_region 1 with fail
    have C_22 := C1.past (o := (.cells #[.int .i64 r.k, .int .u8 r.pr, .int .u32 (r.si : Int), .int .i64 r.sb, .int .u32 (r.di : Int), .int .i64 r.db, .int .u32 (r.ex : Int), .int .u16 r.fr, .int .u16 r.to, .int .u32 (r.ii : Int), .int .u16 r.ip] 42))
    have E_23 := E1.past (o := (.cells #[.int .i64 r.k, .int .u8 r.pr, .int .u32 (r.si : Int), .int .i64 r.sb, .int .u32 (r.di : Int), .int .i64 r.db, .int .u32 (r.ex : Int), .int .u16 r.fr, .int .u16 r.to, .int .u32 (r.ii : Int), .int .u16 r.ip] 42))
    have R_24 := Box11.make W (.int .i64 r.k) (.int .u8 r.pr) (.int .u32 (r.si : Int)) (.int .i64 r.sb) (.int .u32 (r.di : Int)) (.int .i64 r.db) (.int .u32 (r.ex : Int)) (.int .u16 r.fr) (.int .u16 r.to) (.int .u32 (r.ii : Int)) (.int .u16 r.ip) 42
    have B25 := B21.alloc B21.size (.cells #[.int .i64 r.k, .int .u8 r.pr, .int .u32 (r.si : Int), .int .i64 r.sb, .int .u32 (r.di : Int), .int .i64 r.db, .int .u32 (r.ex : Int), .int .u16 r.fr, .int .u16 r.to, .int .u32 (r.ii : Int), .int .u16 r.ip] 42)
    clear C1 E1 B21
    obtain ⟨u1, hu1⟩ : ∃ x_ : World, x_ = W.alloc (.cells #[.int .i64 r.k, .int .u8 r.pr, .int .u32 (r.si : Int), .int .i64 r.sb, .int .u32 (r.di : Int), .int .i64 r.db, .int .u32 (r.ex : Int), .int .u16 r.fr, .int .u16 r.to, .int .u32 (r.ii : Int), .int .u16 r.ip] 42) := ⟨_, rfl⟩
    rw [← hu1] at C_22 E_23 R_24 B25 ⊢
    clear hu1
    obtain ⟨_, c1_0⟩ := id C_22
    obtain ⟨_, e2_0, e2_1⟩ := id E_23
    obtain ⟨_, r3_0, r3_1, r3_2, r3_3, r3_4, r3_5, r3_6, r3_7, r3_8, r3_9, r3_10⟩ := id R_24
    go_wp2_with fail
    refine (m1 _).mono ?_; rintro e w2 ⟨rfl, x2⟩
    have C_26 := C_22.on x2
    have E_27 := E_23.on x2
    have R_28 := R_24.on x2
    have B29 := B25.trans (x2.mono B25.size)
    clear c1_0 e2_0 e2_1 r3_0 r3_1 r3_2 r3_3 r3_4 r3_5 r3_6 r3_7 r3_8 r3_9 r3_10 C_22 E_23 R_24 B25 x2
    obtain ⟨_, c4_0⟩ := id C_26
    obtain ⟨_, e5_0, e5_1⟩ := id E_27
    obtain ⟨_, r6_0, r6_1, r6_2, r6_3, r6_4, r6_5, r6_6, r6_7, r6_8, r6_9, r6_10⟩ := id R_28
    go_wp2
    go_ret
    rw [HV.out]
    exact ⟨rfl, B29⟩
set_option maxHeartbeats 4000000 in
set_option maxRecDepth 100000 in
theorem sourceP_ (pr sp dp : Int) (sa da b1 : Nat) (rs : List Ru) (w : World) (X0 : Box5 w b1 (.int .u8 pr) (.int .u32 (sa : Int)) (.int .u16 sp) (.int .u32 (da : Int)) (.int .u16 dp)) (s1 : sa < 4294967296) (d1 : da < 4294967296) (hall : ∀ r ∈ rs, r.Ok) : Pred 58 #[.pointer (some ⟨b1, 0, none⟩)] (fitF pr sa da) rs w := by
  intro W r hb hm
  have ok := hall r hm
  have X1 := X0.on hb
  show Calls Try.prog 58 #[.agg #[.int .i64 r.k, .int .u8 r.pr, .int .u32 (r.si : Int), .int .i64 r.sb, .int .u32 (r.di : Int), .int .i64 r.db, .int .u32 (r.ex : Int), .int .u16 r.fr, .int .u16 r.to, .int .u32 (r.ii : Int), .int .u16 r.ip], .pointer (some ⟨b1, 0, none⟩)] W _
  clear X0 hb
  have m1 := fun u => static_ r u
  have m2 := fun u => isFor_ r pr u
  have m3 := fun u => has_ r.si r.sb sa u ok.si1 s1 ⟨ok.sb0, ok.sb1⟩
  have m4 := fun u => has_ r.di r.db da u ok.di1 d1 ⟨ok.db0, ok.db1⟩
  obtain ⟨z1, l1⟩ : ∃ x : Bool, decide (r.k = 3) = x := ⟨_, rfl⟩
  obtain ⟨z2, l2⟩ : ∃ x : Bool, (decide (r.pr = 0) || decide (r.pr = pr)) = x := ⟨_, rfl⟩
  obtain ⟨v1, hv1⟩ : ∃ v, hasV r.si r.sb sa = v := ⟨_, rfl⟩
  obtain ⟨v2, hv2⟩ : ∃ v, hasV r.di r.db da = v := ⟨_, rfl⟩
  rw [l1] at m1
  rw [l2] at m2
  rw [hv1] at m3
  rw [hv2] at m4
  have HV : Hid (fitF pr sa da r = (!z1 && z2 && v1 && v2)) := by show _ = _; unfold fitF; rw [l1, l2, hv1, hv2]
  clear l1 l2 hv1 hv2 ok hm hall
  have key : z1 = true ∨ (z1 = false ∧ z2 = false) ∨ (z1 = false ∧ z2 = true ∧ v1 = false) ∨ (z1 = false ∧ z2 = true ∧ v1 = true) := by cases z1 <;> cases z2 <;> cases v1 <;> simp
  rcases key with rfl | ⟨rfl, rfl⟩ | ⟨rfl, rfl, rfl⟩ | ⟨rfl, rfl, rfl⟩
  · simp only [Bool.not_true, Bool.not_false, Bool.and_true, Bool.and_false, Bool.true_and, Bool.false_and, Bool.or_true, Bool.or_false, Bool.true_or, Bool.false_or] at HV
    go_enter Try.func58, Try.ntmps58
    have B21 := Below.refl W.heap.size W
    go_upto_region 1 with fail
    have X_22 := X1.past (o := (.cells #[.int .i64 r.k, .int .u8 r.pr, .int .u32 (r.si : Int), .int .i64 r.sb, .int .u32 (r.di : Int), .int .i64 r.db, .int .u32 (r.ex : Int), .int .u16 r.fr, .int .u16 r.to, .int .u32 (r.ii : Int), .int .u16 r.ip] 42))
    have R_23 := Box11.make W (.int .i64 r.k) (.int .u8 r.pr) (.int .u32 (r.si : Int)) (.int .i64 r.sb) (.int .u32 (r.di : Int)) (.int .i64 r.db) (.int .u32 (r.ex : Int)) (.int .u16 r.fr) (.int .u16 r.to) (.int .u32 (r.ii : Int)) (.int .u16 r.ip) 42
    have B24 := B21.alloc B21.size (.cells #[.int .i64 r.k, .int .u8 r.pr, .int .u32 (r.si : Int), .int .i64 r.sb, .int .u32 (r.di : Int), .int .i64 r.db, .int .u32 (r.ex : Int), .int .u16 r.fr, .int .u16 r.to, .int .u32 (r.ii : Int), .int .u16 r.ip] 42)
    clear X1 B21
    obtain ⟨u1, hu1⟩ : ∃ x_ : World, x_ = W.alloc (.cells #[.int .i64 r.k, .int .u8 r.pr, .int .u32 (r.si : Int), .int .i64 r.sb, .int .u32 (r.di : Int), .int .i64 r.db, .int .u32 (r.ex : Int), .int .u16 r.fr, .int .u16 r.to, .int .u32 (r.ii : Int), .int .u16 r.ip] 42) := ⟨_, rfl⟩
    rw [← hu1] at X_22 R_23 B24 ⊢
    clear hu1
    obtain ⟨_, x1_0, x1_1, x1_2, x1_3, x1_4⟩ := id X_22
    obtain ⟨_, r2_0, r2_1, r2_2, r2_3, r2_4, r2_5, r2_6, r2_7, r2_8, r2_9, r2_10⟩ := id R_23
    go_wp2_with fail
    refine (m1 _).mono ?_; rintro e w2 ⟨rfl, x2⟩
    have X_25 := X_22.on x2
    have R_26 := R_23.on x2
    have B27 := B24.trans (x2.mono B24.size)
    clear x1_0 x1_1 x1_2 x1_3 x1_4 r2_0 r2_1 r2_2 r2_3 r2_4 r2_5 r2_6 r2_7 r2_8 r2_9 r2_10 X_22 R_23 B24 x2
    obtain ⟨_, x3_0, x3_1, x3_2, x3_3, x3_4⟩ := id X_25
    obtain ⟨_, r4_0, r4_1, r4_2, r4_3, r4_4, r4_5, r4_6, r4_7, r4_8, r4_9, r4_10⟩ := id R_26
    go_wp2
    go_ret
    rw [HV.out]
    exact ⟨rfl, B27⟩
  · simp only [Bool.not_true, Bool.not_false, Bool.and_true, Bool.and_false, Bool.true_and, Bool.false_and, Bool.or_true, Bool.or_false, Bool.true_or, Bool.false_or] at HV
    go_enter Try.func58, Try.ntmps58
    have B21 := Below.refl W.heap.size W
    go_upto_region 1 with fail
    have X_22 := X1.past (o := (.cells #[.int .i64 r.k, .int .u8 r.pr, .int .u32 (r.si : Int), .int .i64 r.sb, .int .u32 (r.di : Int), .int .i64 r.db, .int .u32 (r.ex : Int), .int .u16 r.fr, .int .u16 r.to, .int .u32 (r.ii : Int), .int .u16 r.ip] 42))
    have R_23 := Box11.make W (.int .i64 r.k) (.int .u8 r.pr) (.int .u32 (r.si : Int)) (.int .i64 r.sb) (.int .u32 (r.di : Int)) (.int .i64 r.db) (.int .u32 (r.ex : Int)) (.int .u16 r.fr) (.int .u16 r.to) (.int .u32 (r.ii : Int)) (.int .u16 r.ip) 42
    have B24 := B21.alloc B21.size (.cells #[.int .i64 r.k, .int .u8 r.pr, .int .u32 (r.si : Int), .int .i64 r.sb, .int .u32 (r.di : Int), .int .i64 r.db, .int .u32 (r.ex : Int), .int .u16 r.fr, .int .u16 r.to, .int .u32 (r.ii : Int), .int .u16 r.ip] 42)
    clear X1 B21
    obtain ⟨u1, hu1⟩ : ∃ x_ : World, x_ = W.alloc (.cells #[.int .i64 r.k, .int .u8 r.pr, .int .u32 (r.si : Int), .int .i64 r.sb, .int .u32 (r.di : Int), .int .i64 r.db, .int .u32 (r.ex : Int), .int .u16 r.fr, .int .u16 r.to, .int .u32 (r.ii : Int), .int .u16 r.ip] 42) := ⟨_, rfl⟩
    rw [← hu1] at X_22 R_23 B24 ⊢
    clear hu1
    obtain ⟨_, x1_0, x1_1, x1_2, x1_3, x1_4⟩ := id X_22
    obtain ⟨_, r2_0, r2_1, r2_2, r2_3, r2_4, r2_5, r2_6, r2_7, r2_8, r2_9, r2_10⟩ := id R_23
    go_wp2_with fail
    refine (m1 _).mono ?_; rintro e w2 ⟨rfl, x2⟩
    have X_25 := X_22.on x2
    have R_26 := R_23.on x2
    have B27 := B24.trans (x2.mono B24.size)
    clear x1_0 x1_1 x1_2 x1_3 x1_4 r2_0 r2_1 r2_2 r2_3 r2_4 r2_5 r2_6 r2_7 r2_8 r2_9 r2_10 X_22 R_23 B24 x2
    obtain ⟨_, x3_0, x3_1, x3_2, x3_3, x3_4⟩ := id X_25
    obtain ⟨_, r4_0, r4_1, r4_2, r4_3, r4_4, r4_5, r4_6, r4_7, r4_8, r4_9, r4_10⟩ := id R_26
    go_wp2_with fail
    refine (m2 _).mono ?_; rintro e w3 ⟨rfl, x3⟩
    have X_28 := X_25.on x3
    have R_29 := R_26.on x3
    have B30 := B27.trans (x3.mono B27.size)
    clear x3_0 x3_1 x3_2 x3_3 x3_4 r4_0 r4_1 r4_2 r4_3 r4_4 r4_5 r4_6 r4_7 r4_8 r4_9 r4_10 X_25 R_26 B27 x3
    obtain ⟨_, x5_0, x5_1, x5_2, x5_3, x5_4⟩ := id X_28
    obtain ⟨_, r6_0, r6_1, r6_2, r6_3, r6_4, r6_5, r6_6, r6_7, r6_8, r6_9, r6_10⟩ := id R_29
    go_wp2
    go_ret
    rw [HV.out]
    exact ⟨rfl, B30⟩
  · simp only [Bool.not_true, Bool.not_false, Bool.and_true, Bool.and_false, Bool.true_and, Bool.false_and, Bool.or_true, Bool.or_false, Bool.true_or, Bool.false_or] at HV
    go_enter Try.func58, Try.ntmps58
    have B21 := Below.refl W.heap.size W
    go_upto_region 1 with fail
    have X_22 := X1.past (o := (.cells #[.int .i64 r.k, .int .u8 r.pr, .int .u32 (r.si : Int), .int .i64 r.sb, .int .u32 (r.di : Int), .int .i64 r.db, .int .u32 (r.ex : Int), .int .u16 r.fr, .int .u16 r.to, .int .u32 (r.ii : Int), .int .u16 r.ip] 42))
    have R_23 := Box11.make W (.int .i64 r.k) (.int .u8 r.pr) (.int .u32 (r.si : Int)) (.int .i64 r.sb) (.int .u32 (r.di : Int)) (.int .i64 r.db) (.int .u32 (r.ex : Int)) (.int .u16 r.fr) (.int .u16 r.to) (.int .u32 (r.ii : Int)) (.int .u16 r.ip) 42
    have B24 := B21.alloc B21.size (.cells #[.int .i64 r.k, .int .u8 r.pr, .int .u32 (r.si : Int), .int .i64 r.sb, .int .u32 (r.di : Int), .int .i64 r.db, .int .u32 (r.ex : Int), .int .u16 r.fr, .int .u16 r.to, .int .u32 (r.ii : Int), .int .u16 r.ip] 42)
    clear X1 B21
    obtain ⟨u1, hu1⟩ : ∃ x_ : World, x_ = W.alloc (.cells #[.int .i64 r.k, .int .u8 r.pr, .int .u32 (r.si : Int), .int .i64 r.sb, .int .u32 (r.di : Int), .int .i64 r.db, .int .u32 (r.ex : Int), .int .u16 r.fr, .int .u16 r.to, .int .u32 (r.ii : Int), .int .u16 r.ip] 42) := ⟨_, rfl⟩
    rw [← hu1] at X_22 R_23 B24 ⊢
    clear hu1
    obtain ⟨_, x1_0, x1_1, x1_2, x1_3, x1_4⟩ := id X_22
    obtain ⟨_, r2_0, r2_1, r2_2, r2_3, r2_4, r2_5, r2_6, r2_7, r2_8, r2_9, r2_10⟩ := id R_23
    go_wp2_with fail
    refine (m1 _).mono ?_; rintro e w2 ⟨rfl, x2⟩
    have X_25 := X_22.on x2
    have R_26 := R_23.on x2
    have B27 := B24.trans (x2.mono B24.size)
    clear x1_0 x1_1 x1_2 x1_3 x1_4 r2_0 r2_1 r2_2 r2_3 r2_4 r2_5 r2_6 r2_7 r2_8 r2_9 r2_10 X_22 R_23 B24 x2
    obtain ⟨_, x3_0, x3_1, x3_2, x3_3, x3_4⟩ := id X_25
    obtain ⟨_, r4_0, r4_1, r4_2, r4_3, r4_4, r4_5, r4_6, r4_7, r4_8, r4_9, r4_10⟩ := id R_26
    go_wp2_with fail
    refine (m2 _).mono ?_; rintro e w3 ⟨rfl, x3⟩
    have X_28 := X_25.on x3
    have R_29 := R_26.on x3
    have B30 := B27.trans (x3.mono B27.size)
    clear x3_0 x3_1 x3_2 x3_3 x3_4 r4_0 r4_1 r4_2 r4_3 r4_4 r4_5 r4_6 r4_7 r4_8 r4_9 r4_10 X_25 R_26 B27 x3
    obtain ⟨_, x5_0, x5_1, x5_2, x5_3, x5_4⟩ := id X_28
    obtain ⟨_, r6_0, r6_1, r6_2, r6_3, r6_4, r6_5, r6_6, r6_7, r6_8, r6_9, r6_10⟩ := id R_29
    go_wp2_with fail
    refine (m3 _).mono ?_; rintro e w4 ⟨rfl, x4⟩
    have X_31 := X_28.on x4
    have R_32 := R_29.on x4
    have B33 := B30.trans (x4.mono B30.size)
    clear x5_0 x5_1 x5_2 x5_3 x5_4 r6_0 r6_1 r6_2 r6_3 r6_4 r6_5 r6_6 r6_7 r6_8 r6_9 r6_10 X_28 R_29 B30 x4
    obtain ⟨_, x7_0, x7_1, x7_2, x7_3, x7_4⟩ := id X_31
    obtain ⟨_, r8_0, r8_1, r8_2, r8_3, r8_4, r8_5, r8_6, r8_7, r8_8, r8_9, r8_10⟩ := id R_32
    go_wp2
    go_ret
    rw [HV.out]
    exact ⟨rfl, B33⟩
  · simp only [Bool.not_true, Bool.not_false, Bool.and_true, Bool.and_false, Bool.true_and, Bool.false_and, Bool.or_true, Bool.or_false, Bool.true_or, Bool.false_or] at HV
    go_enter Try.func58, Try.ntmps58
    have B21 := Below.refl W.heap.size W
    go_upto_region 1 with fail
    have X_22 := X1.past (o := (.cells #[.int .i64 r.k, .int .u8 r.pr, .int .u32 (r.si : Int), .int .i64 r.sb, .int .u32 (r.di : Int), .int .i64 r.db, .int .u32 (r.ex : Int), .int .u16 r.fr, .int .u16 r.to, .int .u32 (r.ii : Int), .int .u16 r.ip] 42))
    have R_23 := Box11.make W (.int .i64 r.k) (.int .u8 r.pr) (.int .u32 (r.si : Int)) (.int .i64 r.sb) (.int .u32 (r.di : Int)) (.int .i64 r.db) (.int .u32 (r.ex : Int)) (.int .u16 r.fr) (.int .u16 r.to) (.int .u32 (r.ii : Int)) (.int .u16 r.ip) 42
    have B24 := B21.alloc B21.size (.cells #[.int .i64 r.k, .int .u8 r.pr, .int .u32 (r.si : Int), .int .i64 r.sb, .int .u32 (r.di : Int), .int .i64 r.db, .int .u32 (r.ex : Int), .int .u16 r.fr, .int .u16 r.to, .int .u32 (r.ii : Int), .int .u16 r.ip] 42)
    clear X1 B21
    obtain ⟨u1, hu1⟩ : ∃ x_ : World, x_ = W.alloc (.cells #[.int .i64 r.k, .int .u8 r.pr, .int .u32 (r.si : Int), .int .i64 r.sb, .int .u32 (r.di : Int), .int .i64 r.db, .int .u32 (r.ex : Int), .int .u16 r.fr, .int .u16 r.to, .int .u32 (r.ii : Int), .int .u16 r.ip] 42) := ⟨_, rfl⟩
    rw [← hu1] at X_22 R_23 B24 ⊢
    clear hu1
    obtain ⟨_, x1_0, x1_1, x1_2, x1_3, x1_4⟩ := id X_22
    obtain ⟨_, r2_0, r2_1, r2_2, r2_3, r2_4, r2_5, r2_6, r2_7, r2_8, r2_9, r2_10⟩ := id R_23
    go_wp2_with fail
    refine (m1 _).mono ?_; rintro e w2 ⟨rfl, x2⟩
    have X_25 := X_22.on x2
    have R_26 := R_23.on x2
    have B27 := B24.trans (x2.mono B24.size)
    clear x1_0 x1_1 x1_2 x1_3 x1_4 r2_0 r2_1 r2_2 r2_3 r2_4 r2_5 r2_6 r2_7 r2_8 r2_9 r2_10 X_22 R_23 B24 x2
    obtain ⟨_, x3_0, x3_1, x3_2, x3_3, x3_4⟩ := id X_25
    obtain ⟨_, r4_0, r4_1, r4_2, r4_3, r4_4, r4_5, r4_6, r4_7, r4_8, r4_9, r4_10⟩ := id R_26
    go_wp2_with fail
    refine (m2 _).mono ?_; rintro e w3 ⟨rfl, x3⟩
    have X_28 := X_25.on x3
    have R_29 := R_26.on x3
    have B30 := B27.trans (x3.mono B27.size)
    clear x3_0 x3_1 x3_2 x3_3 x3_4 r4_0 r4_1 r4_2 r4_3 r4_4 r4_5 r4_6 r4_7 r4_8 r4_9 r4_10 X_25 R_26 B27 x3
    obtain ⟨_, x5_0, x5_1, x5_2, x5_3, x5_4⟩ := id X_28
    obtain ⟨_, r6_0, r6_1, r6_2, r6_3, r6_4, r6_5, r6_6, r6_7, r6_8, r6_9, r6_10⟩ := id R_29
    go_wp2_with fail
    refine (m3 _).mono ?_; rintro e w4 ⟨rfl, x4⟩
    have X_31 := X_28.on x4
    have R_32 := R_29.on x4
    have B33 := B30.trans (x4.mono B30.size)
    clear x5_0 x5_1 x5_2 x5_3 x5_4 r6_0 r6_1 r6_2 r6_3 r6_4 r6_5 r6_6 r6_7 r6_8 r6_9 r6_10 X_28 R_29 B30 x4
    obtain ⟨_, x7_0, x7_1, x7_2, x7_3, x7_4⟩ := id X_31
    obtain ⟨_, r8_0, r8_1, r8_2, r8_3, r8_4, r8_5, r8_6, r8_7, r8_8, r8_9, r8_10⟩ := id R_32
    go_wp2_with fail
    refine (m4 _).mono ?_; rintro e w5 ⟨rfl, x5⟩
    have X_34 := X_31.on x5
    have R_35 := R_32.on x5
    have B36 := B33.trans (x5.mono B33.size)
    clear x7_0 x7_1 x7_2 x7_3 x7_4 r8_0 r8_1 r8_2 r8_3 r8_4 r8_5 r8_6 r8_7 r8_8 r8_9 r8_10 X_31 R_32 B33 x5
    obtain ⟨_, x9_0, x9_1, x9_2, x9_3, x9_4⟩ := id X_34
    obtain ⟨_, r10_0, r10_1, r10_2, r10_3, r10_4, r10_5, r10_6, r10_7, r10_8, r10_9, r10_10⟩ := id R_35
    go_wp2
    go_ret
    rw [HV.out]
    exact ⟨rfl, B36⟩
set_option maxHeartbeats 4000000 in
set_option maxRecDepth 100000 in
theorem outerP_ (t : Tm) (ad p b1 b2 : Nat) (S : Value) (rs : List Ru) (w : World) (T0 : Box5 w p (.bool true) (.int .u32 (t.own : Int)) (.int .u32 (t.ip : Int)) (.int .i64 t.bits) S) (C0 : Box1 w b1 (.pointer (some ⟨p, 0, none⟩))) (A0 : Box1 w b2 (.int .u32 (ad : Int))) : Pred 51 #[.pointer (some ⟨b1, 0, none⟩), .pointer (some ⟨b2, 0, none⟩)] (fun r => decide (extRu t r = ad)) rs w := by
  intro W r hb _
  have C1 := C0.on hb
  have A1 := A0.on hb
  have T1 := T0.on hb
  show Calls Try.prog 51 #[.agg #[.int .i64 r.k, .int .u8 r.pr, .int .u32 (r.si : Int), .int .i64 r.sb, .int .u32 (r.di : Int), .int .i64 r.db, .int .u32 (r.ex : Int), .int .u16 r.fr, .int .u16 r.to, .int .u32 (r.ii : Int), .int .u16 r.ip], .pointer (some ⟨b1, 0, none⟩), .pointer (some ⟨b2, 0, none⟩)] W _
  clear C0 A0 T0 hb
  have m := fun (u : World) (T : Box5 u p (.bool true) (.int .u32 (t.own : Int)) (.int .u32 (t.ip : Int)) (.int .i64 t.bits) S) => outerC_ t r p S u T
  obtain ⟨z, p1, q1, l1⟩ := eqn_ (extRu t r) ad
  have HV : Hid (decide (extRu t r = ad) = z) := l1
  clear l1 q1
  go_enter Try.func51, Try.ntmps51
  have B21 := Below.refl W.heap.size W
  go_upto_region 1 with fail
  have C_22 := C1.past (o := (.cells #[.int .i64 r.k, .int .u8 r.pr, .int .u32 (r.si : Int), .int .i64 r.sb, .int .u32 (r.di : Int), .int .i64 r.db, .int .u32 (r.ex : Int), .int .u16 r.fr, .int .u16 r.to, .int .u32 (r.ii : Int), .int .u16 r.ip] 42))
  have A_23 := A1.past (o := (.cells #[.int .i64 r.k, .int .u8 r.pr, .int .u32 (r.si : Int), .int .i64 r.sb, .int .u32 (r.di : Int), .int .i64 r.db, .int .u32 (r.ex : Int), .int .u16 r.fr, .int .u16 r.to, .int .u32 (r.ii : Int), .int .u16 r.ip] 42))
  have T_24 := T1.past (o := (.cells #[.int .i64 r.k, .int .u8 r.pr, .int .u32 (r.si : Int), .int .i64 r.sb, .int .u32 (r.di : Int), .int .i64 r.db, .int .u32 (r.ex : Int), .int .u16 r.fr, .int .u16 r.to, .int .u32 (r.ii : Int), .int .u16 r.ip] 42))
  have R_25 := Box11.make W (.int .i64 r.k) (.int .u8 r.pr) (.int .u32 (r.si : Int)) (.int .i64 r.sb) (.int .u32 (r.di : Int)) (.int .i64 r.db) (.int .u32 (r.ex : Int)) (.int .u16 r.fr) (.int .u16 r.to) (.int .u32 (r.ii : Int)) (.int .u16 r.ip) 42
  have B26 := B21.alloc B21.size (.cells #[.int .i64 r.k, .int .u8 r.pr, .int .u32 (r.si : Int), .int .i64 r.sb, .int .u32 (r.di : Int), .int .i64 r.db, .int .u32 (r.ex : Int), .int .u16 r.fr, .int .u16 r.to, .int .u32 (r.ii : Int), .int .u16 r.ip] 42)
  clear C1 A1 T1 B21
  obtain ⟨u1, hu1⟩ : ∃ x_ : World, x_ = W.alloc (.cells #[.int .i64 r.k, .int .u8 r.pr, .int .u32 (r.si : Int), .int .i64 r.sb, .int .u32 (r.di : Int), .int .i64 r.db, .int .u32 (r.ex : Int), .int .u16 r.fr, .int .u16 r.to, .int .u32 (r.ii : Int), .int .u16 r.ip] 42) := ⟨_, rfl⟩
  rw [← hu1] at C_22 A_23 T_24 R_25 B26 ⊢
  clear hu1
  obtain ⟨zr, gr0, gr1, gr2, gr3, gr4, gr5, gr6, gr7, gr8, gr9, gr10⟩ := id R_25
  have Fr0 : ∀ x : Later u1.heap.size u1, x.u.cell? ⟨W.heap.size, 0, none⟩ = some (.int .i64 r.k) := fun x => x.block zr gr0
  have Fr1 : ∀ x : Later u1.heap.size u1, x.u.cell? ⟨W.heap.size, 1, none⟩ = some (.int .u8 r.pr) := fun x => x.block zr gr1
  have Fr2 : ∀ x : Later u1.heap.size u1, x.u.cell? ⟨W.heap.size, 2, none⟩ = some (.int .u32 (r.si : Int)) := fun x => x.block zr gr2
  have Fr3 : ∀ x : Later u1.heap.size u1, x.u.cell? ⟨W.heap.size, 3, none⟩ = some (.int .i64 r.sb) := fun x => x.block zr gr3
  have Fr4 : ∀ x : Later u1.heap.size u1, x.u.cell? ⟨W.heap.size, 4, none⟩ = some (.int .u32 (r.di : Int)) := fun x => x.block zr gr4
  have Fr5 : ∀ x : Later u1.heap.size u1, x.u.cell? ⟨W.heap.size, 5, none⟩ = some (.int .i64 r.db) := fun x => x.block zr gr5
  have Fr6 : ∀ x : Later u1.heap.size u1, x.u.cell? ⟨W.heap.size, 6, none⟩ = some (.int .u32 (r.ex : Int)) := fun x => x.block zr gr6
  have Fr7 : ∀ x : Later u1.heap.size u1, x.u.cell? ⟨W.heap.size, 7, none⟩ = some (.int .u16 r.fr) := fun x => x.block zr gr7
  have Fr8 : ∀ x : Later u1.heap.size u1, x.u.cell? ⟨W.heap.size, 8, none⟩ = some (.int .u16 r.to) := fun x => x.block zr gr8
  have Fr9 : ∀ x : Later u1.heap.size u1, x.u.cell? ⟨W.heap.size, 9, none⟩ = some (.int .u32 (r.ii : Int)) := fun x => x.block zr gr9
  have Fr10 : ∀ x : Later u1.heap.size u1, x.u.cell? ⟨W.heap.size, 10, none⟩ = some (.int .u16 r.ip) := fun x => x.block zr gr10
  clear gr0 gr1 gr2 gr3 gr4 gr5 gr6 gr7 gr8 gr9 gr10
  obtain ⟨zc, gc0⟩ := id C_22
  have Fc0 : ∀ x : Later u1.heap.size u1, x.u.cell? ⟨b1, 0, none⟩ = some (.pointer (some ⟨p, 0, none⟩)) := fun x => x.block zc gc0
  clear gc0
  obtain ⟨za, ga0⟩ := id A_23
  have Fa0 : ∀ x : Later u1.heap.size u1, x.u.cell? ⟨b2, 0, none⟩ = some (.int .u32 (ad : Int)) := fun x => x.block za ga0
  clear ga0
  refine region_later (B := u1.heap.size) (by kernel_rfl) (by kernel_rfl) ?_
  repeat (go_big_quiet_step (first
    | (go_at_call 52; exact later_of _ (Nat.le_refl _) (m _ (T_24.on (Later.h _))))))
  refine later_end fun w2 x2 => ?_
  have C_27 := C_22.on x2
  have A_28 := A_23.on x2
  have T_29 := T_24.on x2
  have R_30 := R_25.on x2
  have B31 := B26.trans (x2.mono B26.size)
  clear Fr0 Fr1 Fr2 Fr3 Fr4 Fr5 Fr6 Fr7 Fr8 Fr9 Fr10 zr Fc0 zc Fa0 za C_22 A_23 T_24 R_25 B26 x2
  go_wp2
  go_ret
  refine ⟨?_, B31⟩
  show _ = Ending.returned (Value.bool (decide (extRu t r = ad)))
  rw [HV.out]
  rfl
set_option maxHeartbeats 4000000 in
set_option maxRecDepth 100000 in
theorem addP_ (t : Tm) (x : Ru) (p b1 b2 : Nat) (S : Value) (rs : List Ru) (w : World) (T0 : Box5 w p (.bool true) (.int .u32 (t.own : Int)) (.int .u32 (t.ip : Int)) (.int .i64 t.bits) S) (C0 : Box1 w b1 (.pointer (some ⟨p, 0, none⟩))) (A0 : Box11 w b2 (.int .i64 x.k) (.int .u8 x.pr) (.int .u32 (x.si : Int)) (.int .i64 x.sb) (.int .u32 (x.di : Int)) (.int .i64 x.db) (.int .u32 (x.ex : Int)) (.int .u16 x.fr) (.int .u16 x.to) (.int .u32 (x.ii : Int)) (.int .u16 x.ip)) : Pred 42 #[.pointer (some ⟨b1, 0, none⟩), .pointer (some ⟨b2, 0, none⟩)] (fun r => clashRu t r x) rs w := by
  intro W r hb _
  have C1 := C0.on hb
  have A1 := A0.on hb
  have T1 := T0.on hb
  show Calls Try.prog 42 #[.agg #[.int .i64 r.k, .int .u8 r.pr, .int .u32 (r.si : Int), .int .i64 r.sb, .int .u32 (r.di : Int), .int .i64 r.db, .int .u32 (r.ex : Int), .int .u16 r.fr, .int .u16 r.to, .int .u32 (r.ii : Int), .int .u16 r.ip], .pointer (some ⟨b1, 0, none⟩), .pointer (some ⟨b2, 0, none⟩)] W _
  show Calls _ _ _ W fun e w' => e = .returned (.bool (clashRu t r x)) ∧ Below W.heap.size W w'
  clear C0 A0 T0 hb
  have m := fun (u : World) (T : Box5 u p (.bool true) (.int .u32 (t.own : Int)) (.int .u32 (t.ip : Int)) (.int .i64 t.bits) S) => clash_ t r x p S u T
  have HV : Hid (clashRu t r x = clashRu t r x) := rfl
  generalize clashRu t r x = z at m ⊢
  go_enter Try.func42, Try.ntmps42
  have B21 := Below.refl W.heap.size W
  go_upto_region 1 with fail
  have C_22 := C1.past (o := (.cells #[.int .i64 r.k, .int .u8 r.pr, .int .u32 (r.si : Int), .int .i64 r.sb, .int .u32 (r.di : Int), .int .i64 r.db, .int .u32 (r.ex : Int), .int .u16 r.fr, .int .u16 r.to, .int .u32 (r.ii : Int), .int .u16 r.ip] 42))
  have A_23 := A1.past (o := (.cells #[.int .i64 r.k, .int .u8 r.pr, .int .u32 (r.si : Int), .int .i64 r.sb, .int .u32 (r.di : Int), .int .i64 r.db, .int .u32 (r.ex : Int), .int .u16 r.fr, .int .u16 r.to, .int .u32 (r.ii : Int), .int .u16 r.ip] 42))
  have T_24 := T1.past (o := (.cells #[.int .i64 r.k, .int .u8 r.pr, .int .u32 (r.si : Int), .int .i64 r.sb, .int .u32 (r.di : Int), .int .i64 r.db, .int .u32 (r.ex : Int), .int .u16 r.fr, .int .u16 r.to, .int .u32 (r.ii : Int), .int .u16 r.ip] 42))
  have R_25 := Box11.make W (.int .i64 r.k) (.int .u8 r.pr) (.int .u32 (r.si : Int)) (.int .i64 r.sb) (.int .u32 (r.di : Int)) (.int .i64 r.db) (.int .u32 (r.ex : Int)) (.int .u16 r.fr) (.int .u16 r.to) (.int .u32 (r.ii : Int)) (.int .u16 r.ip) 42
  have B26 := B21.alloc B21.size (.cells #[.int .i64 r.k, .int .u8 r.pr, .int .u32 (r.si : Int), .int .i64 r.sb, .int .u32 (r.di : Int), .int .i64 r.db, .int .u32 (r.ex : Int), .int .u16 r.fr, .int .u16 r.to, .int .u32 (r.ii : Int), .int .u16 r.ip] 42)
  clear C1 A1 T1 B21
  obtain ⟨u1, hu1⟩ : ∃ x_ : World, x_ = W.alloc (.cells #[.int .i64 r.k, .int .u8 r.pr, .int .u32 (r.si : Int), .int .i64 r.sb, .int .u32 (r.di : Int), .int .i64 r.db, .int .u32 (r.ex : Int), .int .u16 r.fr, .int .u16 r.to, .int .u32 (r.ii : Int), .int .u16 r.ip] 42) := ⟨_, rfl⟩
  rw [← hu1] at C_22 A_23 T_24 R_25 B26 ⊢
  clear hu1
  obtain ⟨_, c1_0⟩ := id C_22
  obtain ⟨_, a2_0, a2_1, a2_2, a2_3, a2_4, a2_5, a2_6, a2_7, a2_8, a2_9, a2_10⟩ := id A_23
  obtain ⟨_, r3_0, r3_1, r3_2, r3_3, r3_4, r3_5, r3_6, r3_7, r3_8, r3_9, r3_10⟩ := id R_25
  go_wp2_with fail
  refine (m _ T_24).mono ?_; rintro e w2 ⟨rfl, x2⟩
  have C_27 := C_22.on x2
  have A_28 := A_23.on x2
  have T_29 := T_24.on x2
  have R_30 := R_25.on x2
  have B31 := B26.trans (x2.mono B26.size)
  clear c1_0 a2_0 a2_1 a2_2 a2_3 a2_4 a2_5 a2_6 a2_7 a2_8 a2_9 a2_10 r3_0 r3_1 r3_2 r3_3 r3_4 r3_5 r3_6 r3_7 r3_8 r3_9 r3_10 C_22 A_23 T_24 R_25 B26 x2
  obtain ⟨_, c4_0⟩ := id C_27
  obtain ⟨_, a5_0, a5_1, a5_2, a5_3, a5_4, a5_5, a5_6, a5_7, a5_8, a5_9, a5_10⟩ := id A_28
  obtain ⟨_, r6_0, r6_1, r6_2, r6_3, r6_4, r6_5, r6_6, r6_7, r6_8, r6_9, r6_10⟩ := id R_30
  go_wp2
  go_ret
  exact ⟨rfl, B31⟩
set_option maxHeartbeats 4000000 in
set_option maxRecDepth 100000 in
theorem staticC_ (t : Tm) (pr ep : Int) (ea p cap : Nat) (a : Option Addr) (w : World) (T0 : Box5 w p (.bool true) (.int .u32 (t.own : Int)) (.int .u32 (t.ip : Int)) (.int .i64 t.bits) (.slice a t.rs.length cap)) (R0 : RulesAt w a t.rs) (hl : t.rs.length ≤ 1000) :
    Calls Try.prog 27 #[.pointer (some ⟨p, 0, none⟩), .int .u8 pr, .agg #[.int .u32 (ea : Int), .int .u16 ep]] w fun e w' => e = .returned (.tuple #[.agg #[.int .i64 (findRu t.rs (fitS pr ea ep)).k, .int .u8 (findRu t.rs (fitS pr ea ep)).pr, .int .u32 ((findRu t.rs (fitS pr ea ep)).si : Int), .int .i64 (findRu t.rs (fitS pr ea ep)).sb, .int .u32 ((findRu t.rs (fitS pr ea ep)).di : Int), .int .i64 (findRu t.rs (fitS pr ea ep)).db, .int .u32 ((findRu t.rs (fitS pr ea ep)).ex : Int), .int .u16 (findRu t.rs (fitS pr ea ep)).fr, .int .u16 (findRu t.rs (fitS pr ea ep)).to, .int .u32 ((findRu t.rs (fitS pr ea ep)).ii : Int), .int .u16 (findRu t.rs (fitS pr ea ep)).ip], .bool (hitRu t.rs (fitS pr ea ep))]) ∧ Below w.heap.size w w' := by
  have RZ := Lib.hid R0
  clear R0
  have eg : ∀ args w, (callFunc 54 args).run Try.prog w = .ok (.enter 54 args) w := enters_of Try.func54 (by kernel_rfl) rfl
  have c := fun (u : World) (T : Box5 u p (.bool true) (.int .u32 (t.own : Int)) (.int .u32 (t.ip : Int)) (.int .i64 t.bits) (.slice a t.rs.length cap)) (R : RulesAt u a t.rs) (hP : Pred 54 #[.pointer (some ⟨w.heap.size, 0, none⟩), .pointer (some ⟨(w.heap.size + 1), 0, none⟩)] (fitS pr ea ep) t.rs u) => firstC_ 54 #[.pointer (some ⟨w.heap.size, 0, none⟩), .pointer (some ⟨(w.heap.size + 1), 0, none⟩)] (fitS pr ea ep) t p cap a u eg T R hl hP
  have HL := Lib.hid hl
  clear eg hl
  generalize hG : hitRu t.rs (fitS pr ea ep) = ok at *
  generalize hF : findRu t.rs (fitS pr ea ep) = q at *
  clear hG hF
  go_enter Try.func27, Try.ntmps27
  have B1 := Below.refl w.heap.size w
  go_upto_region 1 with fail
  have T_2 := T0.past (o := (.cells #[.int .u8 pr] 5))
  have C_3 := Box1.make w (.int .u8 pr) 5
  have B4 := B1.alloc B1.size (.cells #[.int .u8 pr] 5)
  clear T0 B1
  have T_5 := T_2.past (o := (.cells #[.int .u32 (ea : Int), .int .u16 ep] 40))
  have C_6 := C_3.past (o := (.cells #[.int .u32 (ea : Int), .int .u16 ep] 40))
  have hs_ : (w.alloc (.cells #[.int .u8 pr] 5)).heap.size = w.heap.size + 1 := by simp
  have E_7 := Box2.make (w.alloc (.cells #[.int .u8 pr] 5)) (.int .u32 (ea : Int)) (.int .u16 ep) 40
  rw [hs_] at E_7
  clear hs_
  have B8 := B4.alloc B4.size (.cells #[.int .u32 (ea : Int), .int .u16 ep] 40)
  clear T_2 C_3 B4
  have T_9 := T_5.past (o := (.cells #[.int .i64 0, .int .u8 0, .int .u32 0, .int .i64 0, .int .u32 0, .int .i64 0, .int .u32 0, .int .u16 0, .int .u16 0, .int .u32 0, .int .u16 0] 42))
  have C_10 := C_6.past (o := (.cells #[.int .i64 0, .int .u8 0, .int .u32 0, .int .i64 0, .int .u32 0, .int .i64 0, .int .u32 0, .int .u16 0, .int .u16 0, .int .u32 0, .int .u16 0] 42))
  have E_11 := E_7.past (o := (.cells #[.int .i64 0, .int .u8 0, .int .u32 0, .int .i64 0, .int .u32 0, .int .i64 0, .int .u32 0, .int .u16 0, .int .u16 0, .int .u32 0, .int .u16 0] 42))
  have hs_ : ((w.alloc (.cells #[.int .u8 pr] 5)).alloc (.cells #[.int .u32 (ea : Int), .int .u16 ep] 40)).heap.size = w.heap.size + 2 := by simp
  have Z_12 := Box11.make ((w.alloc (.cells #[.int .u8 pr] 5)).alloc (.cells #[.int .u32 (ea : Int), .int .u16 ep] 40)) (.int .i64 0) (.int .u8 0) (.int .u32 0) (.int .i64 0) (.int .u32 0) (.int .i64 0) (.int .u32 0) (.int .u16 0) (.int .u16 0) (.int .u32 0) (.int .u16 0) 42
  rw [hs_] at Z_12
  clear hs_
  have B13 := B8.alloc B8.size (.cells #[.int .i64 0, .int .u8 0, .int .u32 0, .int .i64 0, .int .u32 0, .int .i64 0, .int .u32 0, .int .u16 0, .int .u16 0, .int .u32 0, .int .u16 0] 42)
  clear T_5 C_6 E_7 B8
  have fzZ_14 : ∀ i, (((w.alloc (.cells #[.int .u8 pr] 5)).alloc (.cells #[.int .u32 (ea : Int), .int .u16 ep] 40)).alloc (.cells #[.int .i64 0, .int .u8 0, .int .u32 0, .int .i64 0, .int .u32 0, .int .i64 0, .int .u32 0, .int .u16 0, .int .u16 0, .int .u32 0, .int .u16 0] 42)).frozen? ⟨(w.heap.size + 2), i, none⟩ = false := by intro i; simp [go_sem]
  obtain ⟨u1, hu1⟩ : ∃ x_ : World, x_ = ((w.alloc (.cells #[.int .u8 pr] 5)).alloc (.cells #[.int .u32 (ea : Int), .int .u16 ep] 40)).alloc (.cells #[.int .i64 0, .int .u8 0, .int .u32 0, .int .i64 0, .int .u32 0, .int .i64 0, .int .u32 0, .int .u16 0, .int .u16 0, .int .u32 0, .int .u16 0] 42) := ⟨_, rfl⟩
  rw [← hu1] at T_9 C_10 E_11 Z_12 fzZ_14 B13 ⊢
  clear hu1
  obtain ⟨_, t1_0, t1_1, t1_2, t1_3, t1_4⟩ := id T_9
  go_wp2_with fail
  refine (c _ T_9 (RZ.out.on B13) (staticP_ pr ep ea _ _ t.rs _ C_10 E_11)).mono ?_; rintro e w2 ⟨rfl, x2⟩
  have fzZ_15 : ∀ i, w2.frozen? ⟨(w.heap.size + 2), i, none⟩ = false := fun i => (x2.frozen (p := ⟨_, i, none⟩) Z_12.1).trans (fzZ_14 i)
  clear fzZ_14
  have T_16 := T_9.on x2
  have C_17 := C_10.on x2
  have E_18 := E_11.on x2
  have Z_19 := Z_12.on x2
  have B20 := B13.trans (x2.mono B13.size)
  clear t1_0 t1_1 t1_2 t1_3 t1_4 T_9 C_10 E_11 Z_12 B13 x2
  obtain ⟨_, z2_0, z2_1, z2_2, z2_3, z2_4, z2_5, z2_6, z2_7, z2_8, z2_9, z2_10⟩ := id Z_19
  go_wp2
  refine box11_ (b := w.heap.size + 2) Z_19.some B20 (Nat.le_add_right _ _) fun X x0_ x1_ x2_ x3_ x4_ x5_ x6_ x7_ x8_ x9_ x10_ BX _ _ => ?_
  refine bodyPost_ret (v := .tuple #[.agg #[.int .i64 q.k, .int .u8 q.pr, .int .u32 (q.si : Int), .int .i64 q.sb, .int .u32 (q.di : Int), .int .i64 q.db, .int .u32 (q.ex : Int), .int .u16 q.fr, .int .u16 q.to, .int .u32 (q.ii : Int), .int .u16 q.ip], .bool ok]) (by simp [results, Try.results27, go_sem, x0_, x1_, x2_, x3_, x4_, x5_, x6_, x7_, x8_, x9_, x10_]) rfl ?_
  exact ⟨rfl, BX⟩
set_option maxHeartbeats 4000000 in
set_option maxRecDepth 100000 in
theorem ownC_ (t : Tm) (pr ep : Int) (ea p cap : Nat) (a : Option Addr) (w : World) (T0 : Box5 w p (.bool true) (.int .u32 (t.own : Int)) (.int .u32 (t.ip : Int)) (.int .i64 t.bits) (.slice a t.rs.length cap)) (R0 : RulesAt w a t.rs) (hl : t.rs.length ≤ 1000) :
    Calls Try.prog 28 #[.pointer (some ⟨p, 0, none⟩), .int .u8 pr, .agg #[.int .u32 (ea : Int), .int .u16 ep]] w fun e w' => e = .returned (.tuple #[.agg #[.int .i64 (findRu t.rs (fitO pr ea ep)).k, .int .u8 (findRu t.rs (fitO pr ea ep)).pr, .int .u32 ((findRu t.rs (fitO pr ea ep)).si : Int), .int .i64 (findRu t.rs (fitO pr ea ep)).sb, .int .u32 ((findRu t.rs (fitO pr ea ep)).di : Int), .int .i64 (findRu t.rs (fitO pr ea ep)).db, .int .u32 ((findRu t.rs (fitO pr ea ep)).ex : Int), .int .u16 (findRu t.rs (fitO pr ea ep)).fr, .int .u16 (findRu t.rs (fitO pr ea ep)).to, .int .u32 ((findRu t.rs (fitO pr ea ep)).ii : Int), .int .u16 (findRu t.rs (fitO pr ea ep)).ip], .bool (hitRu t.rs (fitO pr ea ep))]) ∧ Below w.heap.size w w' := by
  have RZ := Lib.hid R0
  clear R0
  have eg : ∀ args w, (callFunc 57 args).run Try.prog w = .ok (.enter 57 args) w := enters_of Try.func57 (by kernel_rfl) rfl
  have c := fun (u : World) (T : Box5 u p (.bool true) (.int .u32 (t.own : Int)) (.int .u32 (t.ip : Int)) (.int .i64 t.bits) (.slice a t.rs.length cap)) (R : RulesAt u a t.rs) (hP : Pred 57 #[.pointer (some ⟨w.heap.size, 0, none⟩), .pointer (some ⟨(w.heap.size + 1), 0, none⟩)] (fitO pr ea ep) t.rs u) => firstC_ 57 #[.pointer (some ⟨w.heap.size, 0, none⟩), .pointer (some ⟨(w.heap.size + 1), 0, none⟩)] (fitO pr ea ep) t p cap a u eg T R hl hP
  have HL := Lib.hid hl
  clear eg hl
  generalize hG : hitRu t.rs (fitO pr ea ep) = ok at *
  generalize hF : findRu t.rs (fitO pr ea ep) = q at *
  clear hG hF
  go_enter Try.func28, Try.ntmps28
  have B1 := Below.refl w.heap.size w
  go_upto_region 1 with fail
  have T_2 := T0.past (o := (.cells #[.int .u8 pr] 5))
  have C_3 := Box1.make w (.int .u8 pr) 5
  have B4 := B1.alloc B1.size (.cells #[.int .u8 pr] 5)
  clear T0 B1
  have T_5 := T_2.past (o := (.cells #[.int .u32 (ea : Int), .int .u16 ep] 40))
  have C_6 := C_3.past (o := (.cells #[.int .u32 (ea : Int), .int .u16 ep] 40))
  have hs_ : (w.alloc (.cells #[.int .u8 pr] 5)).heap.size = w.heap.size + 1 := by simp
  have E_7 := Box2.make (w.alloc (.cells #[.int .u8 pr] 5)) (.int .u32 (ea : Int)) (.int .u16 ep) 40
  rw [hs_] at E_7
  clear hs_
  have B8 := B4.alloc B4.size (.cells #[.int .u32 (ea : Int), .int .u16 ep] 40)
  clear T_2 C_3 B4
  have T_9 := T_5.past (o := (.cells #[.int .i64 0, .int .u8 0, .int .u32 0, .int .i64 0, .int .u32 0, .int .i64 0, .int .u32 0, .int .u16 0, .int .u16 0, .int .u32 0, .int .u16 0] 42))
  have C_10 := C_6.past (o := (.cells #[.int .i64 0, .int .u8 0, .int .u32 0, .int .i64 0, .int .u32 0, .int .i64 0, .int .u32 0, .int .u16 0, .int .u16 0, .int .u32 0, .int .u16 0] 42))
  have E_11 := E_7.past (o := (.cells #[.int .i64 0, .int .u8 0, .int .u32 0, .int .i64 0, .int .u32 0, .int .i64 0, .int .u32 0, .int .u16 0, .int .u16 0, .int .u32 0, .int .u16 0] 42))
  have hs_ : ((w.alloc (.cells #[.int .u8 pr] 5)).alloc (.cells #[.int .u32 (ea : Int), .int .u16 ep] 40)).heap.size = w.heap.size + 2 := by simp
  have Z_12 := Box11.make ((w.alloc (.cells #[.int .u8 pr] 5)).alloc (.cells #[.int .u32 (ea : Int), .int .u16 ep] 40)) (.int .i64 0) (.int .u8 0) (.int .u32 0) (.int .i64 0) (.int .u32 0) (.int .i64 0) (.int .u32 0) (.int .u16 0) (.int .u16 0) (.int .u32 0) (.int .u16 0) 42
  rw [hs_] at Z_12
  clear hs_
  have B13 := B8.alloc B8.size (.cells #[.int .i64 0, .int .u8 0, .int .u32 0, .int .i64 0, .int .u32 0, .int .i64 0, .int .u32 0, .int .u16 0, .int .u16 0, .int .u32 0, .int .u16 0] 42)
  clear T_5 C_6 E_7 B8
  have fzZ_14 : ∀ i, (((w.alloc (.cells #[.int .u8 pr] 5)).alloc (.cells #[.int .u32 (ea : Int), .int .u16 ep] 40)).alloc (.cells #[.int .i64 0, .int .u8 0, .int .u32 0, .int .i64 0, .int .u32 0, .int .i64 0, .int .u32 0, .int .u16 0, .int .u16 0, .int .u32 0, .int .u16 0] 42)).frozen? ⟨(w.heap.size + 2), i, none⟩ = false := by intro i; simp [go_sem]
  obtain ⟨u1, hu1⟩ : ∃ x_ : World, x_ = ((w.alloc (.cells #[.int .u8 pr] 5)).alloc (.cells #[.int .u32 (ea : Int), .int .u16 ep] 40)).alloc (.cells #[.int .i64 0, .int .u8 0, .int .u32 0, .int .i64 0, .int .u32 0, .int .i64 0, .int .u32 0, .int .u16 0, .int .u16 0, .int .u32 0, .int .u16 0] 42) := ⟨_, rfl⟩
  rw [← hu1] at T_9 C_10 E_11 Z_12 fzZ_14 B13 ⊢
  clear hu1
  obtain ⟨_, t1_0, t1_1, t1_2, t1_3, t1_4⟩ := id T_9
  go_wp2_with fail
  refine (c _ T_9 (RZ.out.on B13) (ownP_ pr ep ea _ _ t.rs _ C_10 E_11)).mono ?_; rintro e w2 ⟨rfl, x2⟩
  have fzZ_15 : ∀ i, w2.frozen? ⟨(w.heap.size + 2), i, none⟩ = false := fun i => (x2.frozen (p := ⟨_, i, none⟩) Z_12.1).trans (fzZ_14 i)
  clear fzZ_14
  have T_16 := T_9.on x2
  have C_17 := C_10.on x2
  have E_18 := E_11.on x2
  have Z_19 := Z_12.on x2
  have B20 := B13.trans (x2.mono B13.size)
  clear t1_0 t1_1 t1_2 t1_3 t1_4 T_9 C_10 E_11 Z_12 B13 x2
  obtain ⟨_, z2_0, z2_1, z2_2, z2_3, z2_4, z2_5, z2_6, z2_7, z2_8, z2_9, z2_10⟩ := id Z_19
  go_wp2
  refine box11_ (b := w.heap.size + 2) Z_19.some B20 (Nat.le_add_right _ _) fun X x0_ x1_ x2_ x3_ x4_ x5_ x6_ x7_ x8_ x9_ x10_ BX _ _ => ?_
  refine bodyPost_ret (v := .tuple #[.agg #[.int .i64 q.k, .int .u8 q.pr, .int .u32 (q.si : Int), .int .i64 q.sb, .int .u32 (q.di : Int), .int .i64 q.db, .int .u32 (q.ex : Int), .int .u16 q.fr, .int .u16 q.to, .int .u32 (q.ii : Int), .int .u16 q.ip], .bool ok]) (by simp [results, Try.results28, go_sem, x0_, x1_, x2_, x3_, x4_, x5_, x6_, x7_, x8_, x9_, x10_]) rfl ?_
  exact ⟨rfl, BX⟩
set_option maxHeartbeats 4000000 in
set_option maxRecDepth 100000 in
theorem sourceC_ (t : Tm) (pr sp dp : Int) (sa da p cap : Nat) (a : Option Addr) (w : World) (T0 : Box5 w p (.bool true) (.int .u32 (t.own : Int)) (.int .u32 (t.ip : Int)) (.int .i64 t.bits) (.slice a t.rs.length cap)) (R0 : RulesAt w a t.rs) (hl : t.rs.length ≤ 1000) (hall : ∀ r ∈ t.rs, r.Ok) (s1 : sa < 4294967296) (d1 : da < 4294967296) :
    Calls Try.prog 29 #[.pointer (some ⟨p, 0, none⟩), .agg #[.int .u8 pr, .int .u32 (sa : Int), .int .u16 sp, .int .u32 (da : Int), .int .u16 dp]] w fun e w' => e = .returned (.tuple #[.agg #[.int .i64 (srcRu t pr sa da).k, .int .u8 (srcRu t pr sa da).pr, .int .u32 ((srcRu t pr sa da).si : Int), .int .i64 (srcRu t pr sa da).sb, .int .u32 ((srcRu t pr sa da).di : Int), .int .i64 (srcRu t pr sa da).db, .int .u32 ((srcRu t pr sa da).ex : Int), .int .u16 (srcRu t pr sa da).fr, .int .u16 (srcRu t pr sa da).to, .int .u32 ((srcRu t pr sa da).ii : Int), .int .u16 (srcRu t pr sa da).ip], .bool (hitRu t.rs (fitF pr sa da))]) ∧ Below w.heap.size w w' := by
  have RZ := Lib.hid R0
  clear R0
  have eg : ∀ args w, (callFunc 58 args).run Try.prog w = .ok (.enter 58 args) w := enters_of Try.func58 (by kernel_rfl) rfl
  have c := fun (u : World) (T : Box5 u p (.bool true) (.int .u32 (t.own : Int)) (.int .u32 (t.ip : Int)) (.int .i64 t.bits) (.slice a t.rs.length cap)) (R : RulesAt u a t.rs) (hP : Pred 58 #[.pointer (some ⟨w.heap.size, 0, none⟩)] (fitF pr sa da) t.rs u) => firstC_ 58 #[.pointer (some ⟨w.heap.size, 0, none⟩)] (fitF pr sa da) t p cap a u eg T R hl hP
  have HL := Lib.hid hl
  have HA := Lib.hid hall
  have mz := fun (u : World) (q : Ru) (T : Box5 u p (.bool true) (.int .u32 (t.own : Int)) (.int .u32 (t.ip : Int)) (.int .i64 t.bits) (.slice a t.rs.length cap)) => outerC_ t q p _ u T
  have TK := Lib.hid T0
  clear eg hl hall
  have HG : Hid (srcRu t pr sa da = if hitRu t.rs (fitF pr sa da) = true then { findRu t.rs (fitF pr sa da) with ex := extRu t (findRu t.rs (fitF pr sa da)) } else Ru.zero) := rfl
  generalize srcRu t pr sa da = Q at *
  generalize findRu t.rs (fitF pr sa da) = q at *
  cases hG : hitRu t.rs (fitF pr sa da)
  all_goals
    rw [hG] at c
  · have HQ : Hid (Q = Ru.zero) := by show _ = _; rw [HG.out, hG]; rfl
    clear HG hG mz
    go_enter Try.func29, Try.ntmps29
    have B1 := Below.refl w.heap.size w
    go_upto_region 1 with fail
    have T_2 := T0.past (o := (.cells #[.int .u8 pr, .int .u32 (sa : Int), .int .u16 sp, .int .u32 (da : Int), .int .u16 dp] 57))
    have X_3 := Box5.make w (.int .u8 pr) (.int .u32 (sa : Int)) (.int .u16 sp) (.int .u32 (da : Int)) (.int .u16 dp) 57
    have B4 := B1.alloc B1.size (.cells #[.int .u8 pr, .int .u32 (sa : Int), .int .u16 sp, .int .u32 (da : Int), .int .u16 dp] 57)
    clear T0 B1
    have T_5 := T_2.past (o := (.cells #[.int .i64 0, .int .u8 0, .int .u32 0, .int .i64 0, .int .u32 0, .int .i64 0, .int .u32 0, .int .u16 0, .int .u16 0, .int .u32 0, .int .u16 0] 42))
    have X_6 := X_3.past (o := (.cells #[.int .i64 0, .int .u8 0, .int .u32 0, .int .i64 0, .int .u32 0, .int .i64 0, .int .u32 0, .int .u16 0, .int .u16 0, .int .u32 0, .int .u16 0] 42))
    have hs_ : (w.alloc (.cells #[.int .u8 pr, .int .u32 (sa : Int), .int .u16 sp, .int .u32 (da : Int), .int .u16 dp] 57)).heap.size = w.heap.size + 1 := by simp
    have Z_7 := Box11.make (w.alloc (.cells #[.int .u8 pr, .int .u32 (sa : Int), .int .u16 sp, .int .u32 (da : Int), .int .u16 dp] 57)) (.int .i64 0) (.int .u8 0) (.int .u32 0) (.int .i64 0) (.int .u32 0) (.int .i64 0) (.int .u32 0) (.int .u16 0) (.int .u16 0) (.int .u32 0) (.int .u16 0) 42
    rw [hs_] at Z_7
    clear hs_
    have B8 := B4.alloc B4.size (.cells #[.int .i64 0, .int .u8 0, .int .u32 0, .int .i64 0, .int .u32 0, .int .i64 0, .int .u32 0, .int .u16 0, .int .u16 0, .int .u32 0, .int .u16 0] 42)
    clear T_2 X_3 B4
    have fzZ_9 : ∀ i, ((w.alloc (.cells #[.int .u8 pr, .int .u32 (sa : Int), .int .u16 sp, .int .u32 (da : Int), .int .u16 dp] 57)).alloc (.cells #[.int .i64 0, .int .u8 0, .int .u32 0, .int .i64 0, .int .u32 0, .int .i64 0, .int .u32 0, .int .u16 0, .int .u16 0, .int .u32 0, .int .u16 0] 42)).frozen? ⟨(w.heap.size + 1), i, none⟩ = false := by intro i; simp [go_sem]
    obtain ⟨u1, hu1⟩ : ∃ x_ : World, x_ = (w.alloc (.cells #[.int .u8 pr, .int .u32 (sa : Int), .int .u16 sp, .int .u32 (da : Int), .int .u16 dp] 57)).alloc (.cells #[.int .i64 0, .int .u8 0, .int .u32 0, .int .i64 0, .int .u32 0, .int .i64 0, .int .u32 0, .int .u16 0, .int .u16 0, .int .u32 0, .int .u16 0] 42) := ⟨_, rfl⟩
    rw [← hu1] at T_5 X_6 Z_7 fzZ_9 B8 ⊢
    clear hu1
    obtain ⟨_, t1_0, t1_1, t1_2, t1_3, t1_4⟩ := id T_5
    go_wp2_with fail
    refine (c _ T_5 (RZ.out.on B8) (sourceP_ pr sp dp sa da _ t.rs _ X_6 s1 d1 HA.out)).mono ?_; rintro e w2 ⟨rfl, x2⟩
    have fzZ_10 : ∀ i, w2.frozen? ⟨(w.heap.size + 1), i, none⟩ = false := fun i => (x2.frozen (p := ⟨_, i, none⟩) Z_7.1).trans (fzZ_9 i)
    clear fzZ_9
    have T_11 := T_5.on x2
    have X_12 := X_6.on x2
    have Z_13 := Z_7.on x2
    have B14 := B8.trans (x2.mono B8.size)
    clear t1_0 t1_1 t1_2 t1_3 t1_4 T_5 X_6 Z_7 B8 x2
    obtain ⟨_, z2_0, z2_1, z2_2, z2_3, z2_4, z2_5, z2_6, z2_7, z2_8, z2_9, z2_10⟩ := id Z_13
    go_upto_region 2 with fail
    clear z2_0 z2_1 z2_2 z2_3 z2_4 z2_5 z2_6 z2_7 z2_8 z2_9 z2_10
    refine box11f_ (b := w.heap.size + 1) Z_13.some B14 (Nat.le_succ _) fun uX x0_ x1_ x2_ x3_ x4_ x5_ x6_ x7_ x8_ x9_ x10_ BX_ far_ sz_ fzz_ => ?_
    have Z_z : Box11 uX (w.heap.size + 1) (.int .i64 q.k) (.int .u8 q.pr) (.int .u32 (q.si : Int)) (.int .i64 q.sb) (.int .u32 (q.di : Int)) (.int .i64 q.db) (.int .u32 (q.ex : Int)) (.int .u16 q.fr) (.int .u16 q.to) (.int .u32 (q.ii : Int)) (.int .u16 q.ip) := ⟨by rw [sz_]; exact Z_13.1, x0_, x1_, x2_, x3_, x4_, x5_, x6_, x7_, x8_, x9_, x10_⟩
    have fz_z : ∀ i, uX.frozen? ⟨(w.heap.size + 1), i, none⟩ = false := fun i => (fzz_ _).trans (fzZ_10 i)
    have T_z := TK.out.on BX_
    clear far_ sz_ fzz_ x0_ x1_ x2_ x3_ x4_ x5_ x6_ x7_ x8_ x9_ x10_ T_11 X_12 Z_13 fzZ_10 B14
    obtain ⟨_, t3_0, t3_1, t3_2, t3_3, t3_4⟩ := id T_z
    obtain ⟨_, z4_0, z4_1, z4_2, z4_3, z4_4, z4_5, z4_6, z4_7, z4_8, z4_9, z4_10⟩ := id Z_z
    go_wp2
    refine box11_ (b := w.heap.size + 1) Z_z.some BX_ (Nat.le_succ _) fun X x0_ x1_ x2_ x3_ x4_ x5_ x6_ x7_ x8_ x9_ x10_ BX _ _ => ?_
    refine bodyPost_ret (v := .tuple #[.agg #[.int .i64 0, .int .u8 0, .int .u32 0, .int .i64 0, .int .u32 0, .int .i64 0, .int .u32 0, .int .u16 0, .int .u16 0, .int .u32 0, .int .u16 0], .bool false]) (by simp [results, Try.results29, go_sem, x0_, x1_, x2_, x3_, x4_, x5_, x6_, x7_, x8_, x9_, x10_]) rfl ?_
    rw [HQ.out]
    exact ⟨rfl, BX⟩
  · have HQ : Hid (Q = { q with ex := extRu t q }) := by show _ = _; rw [HG.out, hG]; rfl
    clear HG hG
    have m := fun (u : World) (T : Box5 u p (.bool true) (.int .u32 (t.own : Int)) (.int .u32 (t.ip : Int)) (.int .i64 t.bits) (.slice a t.rs.length cap)) => mz u q T
    clear mz
    go_enter Try.func29, Try.ntmps29
    have B1 := Below.refl w.heap.size w
    go_upto_region 1 with fail
    have T_2 := T0.past (o := (.cells #[.int .u8 pr, .int .u32 (sa : Int), .int .u16 sp, .int .u32 (da : Int), .int .u16 dp] 57))
    have X_3 := Box5.make w (.int .u8 pr) (.int .u32 (sa : Int)) (.int .u16 sp) (.int .u32 (da : Int)) (.int .u16 dp) 57
    have B4 := B1.alloc B1.size (.cells #[.int .u8 pr, .int .u32 (sa : Int), .int .u16 sp, .int .u32 (da : Int), .int .u16 dp] 57)
    clear T0 B1
    have T_5 := T_2.past (o := (.cells #[.int .i64 0, .int .u8 0, .int .u32 0, .int .i64 0, .int .u32 0, .int .i64 0, .int .u32 0, .int .u16 0, .int .u16 0, .int .u32 0, .int .u16 0] 42))
    have X_6 := X_3.past (o := (.cells #[.int .i64 0, .int .u8 0, .int .u32 0, .int .i64 0, .int .u32 0, .int .i64 0, .int .u32 0, .int .u16 0, .int .u16 0, .int .u32 0, .int .u16 0] 42))
    have hs_ : (w.alloc (.cells #[.int .u8 pr, .int .u32 (sa : Int), .int .u16 sp, .int .u32 (da : Int), .int .u16 dp] 57)).heap.size = w.heap.size + 1 := by simp
    have Z_7 := Box11.make (w.alloc (.cells #[.int .u8 pr, .int .u32 (sa : Int), .int .u16 sp, .int .u32 (da : Int), .int .u16 dp] 57)) (.int .i64 0) (.int .u8 0) (.int .u32 0) (.int .i64 0) (.int .u32 0) (.int .i64 0) (.int .u32 0) (.int .u16 0) (.int .u16 0) (.int .u32 0) (.int .u16 0) 42
    rw [hs_] at Z_7
    clear hs_
    have B8 := B4.alloc B4.size (.cells #[.int .i64 0, .int .u8 0, .int .u32 0, .int .i64 0, .int .u32 0, .int .i64 0, .int .u32 0, .int .u16 0, .int .u16 0, .int .u32 0, .int .u16 0] 42)
    clear T_2 X_3 B4
    have fzZ_9 : ∀ i, ((w.alloc (.cells #[.int .u8 pr, .int .u32 (sa : Int), .int .u16 sp, .int .u32 (da : Int), .int .u16 dp] 57)).alloc (.cells #[.int .i64 0, .int .u8 0, .int .u32 0, .int .i64 0, .int .u32 0, .int .i64 0, .int .u32 0, .int .u16 0, .int .u16 0, .int .u32 0, .int .u16 0] 42)).frozen? ⟨(w.heap.size + 1), i, none⟩ = false := by intro i; simp [go_sem]
    obtain ⟨u1, hu1⟩ : ∃ x_ : World, x_ = (w.alloc (.cells #[.int .u8 pr, .int .u32 (sa : Int), .int .u16 sp, .int .u32 (da : Int), .int .u16 dp] 57)).alloc (.cells #[.int .i64 0, .int .u8 0, .int .u32 0, .int .i64 0, .int .u32 0, .int .i64 0, .int .u32 0, .int .u16 0, .int .u16 0, .int .u32 0, .int .u16 0] 42) := ⟨_, rfl⟩
    rw [← hu1] at T_5 X_6 Z_7 fzZ_9 B8 ⊢
    clear hu1
    obtain ⟨_, t1_0, t1_1, t1_2, t1_3, t1_4⟩ := id T_5
    go_wp2_with fail
    refine (c _ T_5 (RZ.out.on B8) (sourceP_ pr sp dp sa da _ t.rs _ X_6 s1 d1 HA.out)).mono ?_; rintro e w2 ⟨rfl, x2⟩
    have fzZ_10 : ∀ i, w2.frozen? ⟨(w.heap.size + 1), i, none⟩ = false := fun i => (x2.frozen (p := ⟨_, i, none⟩) Z_7.1).trans (fzZ_9 i)
    clear fzZ_9
    have T_11 := T_5.on x2
    have X_12 := X_6.on x2
    have Z_13 := Z_7.on x2
    have B14 := B8.trans (x2.mono B8.size)
    clear t1_0 t1_1 t1_2 t1_3 t1_4 T_5 X_6 Z_7 B8 x2
    obtain ⟨_, z2_0, z2_1, z2_2, z2_3, z2_4, z2_5, z2_6, z2_7, z2_8, z2_9, z2_10⟩ := id Z_13
    go_upto_region 2 with fail
    clear z2_0 z2_1 z2_2 z2_3 z2_4 z2_5 z2_6 z2_7 z2_8 z2_9 z2_10
    refine box11f_ (b := w.heap.size + 1) Z_13.some B14 (Nat.le_succ _) fun uX x0_ x1_ x2_ x3_ x4_ x5_ x6_ x7_ x8_ x9_ x10_ BX_ far_ sz_ fzz_ => ?_
    have Z_z : Box11 uX (w.heap.size + 1) (.int .i64 q.k) (.int .u8 q.pr) (.int .u32 (q.si : Int)) (.int .i64 q.sb) (.int .u32 (q.di : Int)) (.int .i64 q.db) (.int .u32 (q.ex : Int)) (.int .u16 q.fr) (.int .u16 q.to) (.int .u32 (q.ii : Int)) (.int .u16 q.ip) := ⟨by rw [sz_]; exact Z_13.1, x0_, x1_, x2_, x3_, x4_, x5_, x6_, x7_, x8_, x9_, x10_⟩
    have fz_z : ∀ i, uX.frozen? ⟨(w.heap.size + 1), i, none⟩ = false := fun i => (fzz_ _).trans (fzZ_10 i)
    have T_z := TK.out.on BX_
    clear far_ sz_ fzz_ x0_ x1_ x2_ x3_ x4_ x5_ x6_ x7_ x8_ x9_ x10_ T_11 X_12 Z_13 fzZ_10 B14
    obtain ⟨_, t3_0, t3_1, t3_2, t3_3, t3_4⟩ := id T_z
    obtain ⟨_, z4_0, z4_1, z4_2, z4_3, z4_4, z4_5, z4_6, z4_7, z4_8, z4_9, z4_10⟩ := id Z_z
    go_wp2_with fail
    refine (m _ T_z).mono ?_; rintro e w3 ⟨rfl, x3⟩
    have fzZ_15 : ∀ i, w3.frozen? ⟨(w.heap.size + 1), i, none⟩ = false := fun i => (x3.frozen (p := ⟨_, i, none⟩) Z_z.1).trans (fz_z i)
    clear fz_z
    have T_16 := T_z.on x3
    have Z_17 := Z_z.on x3
    have B18 := BX_.trans (x3.mono BX_.size)
    clear t3_0 t3_1 t3_2 t3_3 t3_4 z4_0 z4_1 z4_2 z4_3 z4_4 z4_5 z4_6 z4_7 z4_8 z4_9 z4_10 T_z Z_z BX_ x3
    obtain ⟨xe, hxe⟩ : ∃ x, extRu t q = x := ⟨_, rfl⟩
    rw [hxe]
    have HX := Lib.hid hxe
    clear hxe
    obtain ⟨_, t5_0, t5_1, t5_2, t5_3, t5_4⟩ := id T_16
    obtain ⟨_, z6_0, z6_1, z6_2, z6_3, z6_4, z6_5, z6_6, z6_7, z6_8, z6_9, z6_10⟩ := id Z_17
    go_upto_region 5 with fail
    clear t5_0 t5_1 t5_2 t5_3 t5_4 z6_0 z6_1 z6_2 z6_3 z6_4 z6_5 z6_6 z6_7 z6_8 z6_9 z6_10
    obtain ⟨_, t7_0, t7_1, t7_2, t7_3, t7_4⟩ := id T_16
    obtain ⟨_, z8_0, z8_1, z8_2, z8_3, z8_4, z8_5, z8_6, z8_7, z8_8, z8_9, z8_10⟩ := id Z_17
    have B19 := (B18.setCell (p := ⟨(w.heap.size + 1), 6, none⟩) (Nat.le_succ _) (.int .u32 (xe : Int)))
    have T_20 : Box5 (w3.setCell ⟨(w.heap.size + 1), 6, none⟩ (.int .u32 (xe : Int))) p (.bool true) (.int .u32 (t.own : Int)) (.int .u32 (t.ip : Int)) (.int .i64 t.bits) ((.slice a t.rs.length cap)) := ⟨by have := T_16.1; simpa using this, by simp [go_sem, t7_0, t7_1, t7_2, t7_3, t7_4, z8_0, z8_1, z8_2, z8_3, z8_4, z8_5, z8_6, z8_7, z8_8, z8_9, z8_10], by simp [go_sem, t7_0, t7_1, t7_2, t7_3, t7_4, z8_0, z8_1, z8_2, z8_3, z8_4, z8_5, z8_6, z8_7, z8_8, z8_9, z8_10], by simp [go_sem, t7_0, t7_1, t7_2, t7_3, t7_4, z8_0, z8_1, z8_2, z8_3, z8_4, z8_5, z8_6, z8_7, z8_8, z8_9, z8_10], by simp [go_sem, t7_0, t7_1, t7_2, t7_3, t7_4, z8_0, z8_1, z8_2, z8_3, z8_4, z8_5, z8_6, z8_7, z8_8, z8_9, z8_10], by simp [go_sem, t7_0, t7_1, t7_2, t7_3, t7_4, z8_0, z8_1, z8_2, z8_3, z8_4, z8_5, z8_6, z8_7, z8_8, z8_9, z8_10]⟩
    have Z_21 : Box11 (w3.setCell ⟨(w.heap.size + 1), 6, none⟩ (.int .u32 (xe : Int))) (w.heap.size + 1) (.int .i64 q.k) (.int .u8 q.pr) (.int .u32 (q.si : Int)) (.int .i64 q.sb) (.int .u32 (q.di : Int)) (.int .i64 q.db) (.int .u32 (xe : Int)) (.int .u16 q.fr) (.int .u16 q.to) (.int .u32 (q.ii : Int)) (.int .u16 q.ip) := ⟨by have := Z_17.1; simpa using this, by simp [go_sem, t7_0, t7_1, t7_2, t7_3, t7_4, z8_0, z8_1, z8_2, z8_3, z8_4, z8_5, z8_6, z8_7, z8_8, z8_9, z8_10], by simp [go_sem, t7_0, t7_1, t7_2, t7_3, t7_4, z8_0, z8_1, z8_2, z8_3, z8_4, z8_5, z8_6, z8_7, z8_8, z8_9, z8_10], by simp [go_sem, t7_0, t7_1, t7_2, t7_3, t7_4, z8_0, z8_1, z8_2, z8_3, z8_4, z8_5, z8_6, z8_7, z8_8, z8_9, z8_10], by simp [go_sem, t7_0, t7_1, t7_2, t7_3, t7_4, z8_0, z8_1, z8_2, z8_3, z8_4, z8_5, z8_6, z8_7, z8_8, z8_9, z8_10], by simp [go_sem, t7_0, t7_1, t7_2, t7_3, t7_4, z8_0, z8_1, z8_2, z8_3, z8_4, z8_5, z8_6, z8_7, z8_8, z8_9, z8_10], by simp [go_sem, t7_0, t7_1, t7_2, t7_3, t7_4, z8_0, z8_1, z8_2, z8_3, z8_4, z8_5, z8_6, z8_7, z8_8, z8_9, z8_10], by simp [go_sem, t7_0, t7_1, t7_2, t7_3, t7_4, z8_0, z8_1, z8_2, z8_3, z8_4, z8_5, z8_6, z8_7, z8_8, z8_9, z8_10], by simp [go_sem, t7_0, t7_1, t7_2, t7_3, t7_4, z8_0, z8_1, z8_2, z8_3, z8_4, z8_5, z8_6, z8_7, z8_8, z8_9, z8_10], by simp [go_sem, t7_0, t7_1, t7_2, t7_3, t7_4, z8_0, z8_1, z8_2, z8_3, z8_4, z8_5, z8_6, z8_7, z8_8, z8_9, z8_10], by simp [go_sem, t7_0, t7_1, t7_2, t7_3, t7_4, z8_0, z8_1, z8_2, z8_3, z8_4, z8_5, z8_6, z8_7, z8_8, z8_9, z8_10], by simp [go_sem, t7_0, t7_1, t7_2, t7_3, t7_4, z8_0, z8_1, z8_2, z8_3, z8_4, z8_5, z8_6, z8_7, z8_8, z8_9, z8_10]⟩
    have fzZ_22 : ∀ i, (w3.setCell ⟨(w.heap.size + 1), 6, none⟩ (.int .u32 (xe : Int))).frozen? ⟨(w.heap.size + 1), i, none⟩ = false := by intro i; simp [fzZ_15]
    clear t7_0 t7_1 t7_2 t7_3 t7_4 z8_0 z8_1 z8_2 z8_3 z8_4 z8_5 z8_6 z8_7 z8_8 z8_9 z8_10 T_16 Z_17 fzZ_15 B18
    obtain ⟨u4, hu4⟩ : ∃ x_ : World, x_ = (w3.setCell ⟨(w.heap.size + 1), 6, none⟩ (.int .u32 (xe : Int))) := ⟨_, rfl⟩
    rw [← hu4] at T_20 Z_21 fzZ_22 B19 ⊢
    clear hu4
    obtain ⟨_, t9_0, t9_1, t9_2, t9_3, t9_4⟩ := id T_20
    obtain ⟨_, z10_0, z10_1, z10_2, z10_3, z10_4, z10_5, z10_6, z10_7, z10_8, z10_9, z10_10⟩ := id Z_21
    go_wp2
    refine box11_ (b := w.heap.size + 1) Z_21.some B19 (Nat.le_succ _) fun X x0_ x1_ x2_ x3_ x4_ x5_ x6_ x7_ x8_ x9_ x10_ BX _ _ => ?_
    refine bodyPost_ret (v := .tuple #[.agg #[.int .i64 q.k, .int .u8 q.pr, .int .u32 (q.si : Int), .int .i64 q.sb, .int .u32 (q.di : Int), .int .i64 q.db, .int .u32 (xe : Int), .int .u16 q.fr, .int .u16 q.to, .int .u32 (q.ii : Int), .int .u16 q.ip], .bool true]) (by simp [results, Try.results29, go_sem, x0_, x1_, x2_, x3_, x4_, x5_, x6_, x7_, x8_, x9_, x10_]) rfl ?_
    rw [HQ.out, ← HX.out]
    exact ⟨rfl, BX⟩
set_option maxHeartbeats 4000000 in
set_option maxRecDepth 100000 in
theorem outerAtC_ (t : Tm) (ad p cap : Nat) (a : Option Addr) (w : World) (T0 : Box5 w p (.bool true) (.int .u32 (t.own : Int)) (.int .u32 (t.ip : Int)) (.int .i64 t.bits) (.slice a t.rs.length cap)) (R0 : RulesAt w a t.rs) (hl : t.rs.length ≤ 1000) :
    Calls Try.prog 25 #[.pointer (some ⟨p, 0, none⟩), .int .u32 (ad : Int)] w fun e w' => e = .returned (.bool (outerB t ad)) ∧ Below w.heap.size w w' := by
  have RZ := Lib.hid R0
  clear R0
  have eg : ∀ args w, (callFunc 51 args).run Try.prog w = .ok (.enter 51 args) w := enters_of Try.func51 (by kernel_rfl) rfl
  have c := fun (u : World) (T : Box5 u p (.bool true) (.int .u32 (t.own : Int)) (.int .u32 (t.ip : Int)) (.int .i64 t.bits) (.slice a t.rs.length cap)) (R : RulesAt u a t.rs) (hP : Pred 51 #[.pointer (some ⟨w.heap.size, 0, none⟩), .pointer (some ⟨(w.heap.size + 1), 0, none⟩)] (fun r => decide (extRu t r = ad)) t.rs u) => firstC_ 51 #[.pointer (some ⟨w.heap.size, 0, none⟩), .pointer (some ⟨(w.heap.size + 1), 0, none⟩)] (fun r => decide (extRu t r = ad)) t p cap a u eg T R hl hP
  have n := fun (u : World) (T : Box5 u p (.bool true) (.int .u32 (t.own : Int)) (.int .u32 (t.ip : Int)) (.int .i64 t.bits) (.slice a t.rs.length cap)) => none_ t p _ u T
  have HL := Lib.hid hl
  have HG : Hid (outerB t ad = (decide (t.own = ad) || hitRu t.rs (fun r => decide (extRu t r = ad)))) := rfl
  clear eg hl
  generalize findRu t.rs (fun r => decide (extRu t r = ad)) = q at *
  obtain ⟨z, p1, q1, l1⟩ := eqn_ t.own ad
  rw [l1] at HG
  clear l1 q1
  cases hG : hitRu t.rs (fun r => decide (extRu t r = ad))
  all_goals
    rw [hG] at c HG
    clear hG
  · simp only [Bool.not_true, Bool.not_false, Bool.and_true, Bool.and_false, Bool.true_and, Bool.false_and, Bool.or_true, Bool.or_false, Bool.true_or, Bool.false_or] at HG
    go_enter Try.func25, Try.ntmps25
    have B1 := Below.refl w.heap.size w
    go_upto_region 1 with fail
    have T_2 := T0.past (o := (.cells #[.pointer (some ⟨p, 0, none⟩)] 24))
    have C_3 := Box1.make w (.pointer (some ⟨p, 0, none⟩)) 24
    have B4 := B1.alloc B1.size (.cells #[.pointer (some ⟨p, 0, none⟩)] 24)
    clear T0 B1
    have T_5 := T_2.past (o := (.cells #[.int .u32 (ad : Int)] 29))
    have C_6 := C_3.past (o := (.cells #[.int .u32 (ad : Int)] 29))
    have hs_ : (w.alloc (.cells #[.pointer (some ⟨p, 0, none⟩)] 24)).heap.size = w.heap.size + 1 := by simp
    have A_7 := Box1.make (w.alloc (.cells #[.pointer (some ⟨p, 0, none⟩)] 24)) (.int .u32 (ad : Int)) 29
    rw [hs_] at A_7
    clear hs_
    have B8 := B4.alloc B4.size (.cells #[.int .u32 (ad : Int)] 29)
    clear T_2 C_3 B4
    obtain ⟨u1, hu1⟩ : ∃ x_ : World, x_ = (w.alloc (.cells #[.pointer (some ⟨p, 0, none⟩)] 24)).alloc (.cells #[.int .u32 (ad : Int)] 29) := ⟨_, rfl⟩
    rw [← hu1] at T_5 C_6 A_7 B8 ⊢
    clear hu1
    obtain ⟨_, c1_0⟩ := id C_6
    obtain ⟨_, t2_0, t2_1, t2_2, t2_3, t2_4⟩ := id T_5
    go_wp2_with fail
    refine (n _ T_5).mono ?_; rintro e w2 ⟨rfl, x2⟩
    have T_9 := T_5.on x2
    have C_10 := C_6.on x2
    have A_11 := A_7.on x2
    have B12 := B8.trans (x2.mono B8.size)
    clear c1_0 t2_0 t2_1 t2_2 t2_3 t2_4 T_5 C_6 A_7 B8 x2
    obtain ⟨_, c3_0⟩ := id C_10
    obtain ⟨_, t4_0, t4_1, t4_2, t4_3, t4_4⟩ := id T_9
    go_wp2_with fail
    refine (c _ T_9 (RZ.out.on B12) (outerP_ t ad p _ _ _ t.rs _ T_9 C_10 A_11)).mono ?_; rintro e w3 ⟨rfl, x3⟩
    have T_13 := T_9.on x3
    have C_14 := C_10.on x3
    have A_15 := A_11.on x3
    have B16 := B12.trans (x3.mono B12.size)
    clear c3_0 t4_0 t4_1 t4_2 t4_3 t4_4 T_9 C_10 A_11 B12 x3
    go_upto_region 4 with fail
    have T_17 := T_13.past (o := (.cells #[.int .i64 q.k, .int .u8 q.pr, .int .u32 (q.si : Int), .int .i64 q.sb, .int .u32 (q.di : Int), .int .i64 q.db, .int .u32 (q.ex : Int), .int .u16 q.fr, .int .u16 q.to, .int .u32 (q.ii : Int), .int .u16 q.ip] 42))
    have C_18 := C_14.past (o := (.cells #[.int .i64 q.k, .int .u8 q.pr, .int .u32 (q.si : Int), .int .i64 q.sb, .int .u32 (q.di : Int), .int .i64 q.db, .int .u32 (q.ex : Int), .int .u16 q.fr, .int .u16 q.to, .int .u32 (q.ii : Int), .int .u16 q.ip] 42))
    have A_19 := A_15.past (o := (.cells #[.int .i64 q.k, .int .u8 q.pr, .int .u32 (q.si : Int), .int .i64 q.sb, .int .u32 (q.di : Int), .int .i64 q.db, .int .u32 (q.ex : Int), .int .u16 q.fr, .int .u16 q.to, .int .u32 (q.ii : Int), .int .u16 q.ip] 42))
    have B20 := B16.alloc B16.size (.cells #[.int .i64 q.k, .int .u8 q.pr, .int .u32 (q.si : Int), .int .i64 q.sb, .int .u32 (q.di : Int), .int .i64 q.db, .int .u32 (q.ex : Int), .int .u16 q.fr, .int .u16 q.to, .int .u32 (q.ii : Int), .int .u16 q.ip] 42)
    clear T_13 C_14 A_15 B16
    obtain ⟨u4, hu4⟩ : ∃ x_ : World, x_ = w3.alloc (.cells #[.int .i64 q.k, .int .u8 q.pr, .int .u32 (q.si : Int), .int .i64 q.sb, .int .u32 (q.di : Int), .int .i64 q.db, .int .u32 (q.ex : Int), .int .u16 q.fr, .int .u16 q.to, .int .u32 (q.ii : Int), .int .u16 q.ip] 42) := ⟨_, rfl⟩
    rw [← hu4] at T_17 C_18 A_19 B20 ⊢
    clear hu4
    obtain ⟨zc, gc0⟩ := id C_18
    have Fc0 : ∀ x : Later u4.heap.size u4, x.u.cell? ⟨w.heap.size, 0, none⟩ = some (.pointer (some ⟨p, 0, none⟩)) := fun x => x.block zc gc0
    clear gc0
    obtain ⟨za, ga0⟩ := id A_19
    have Fa0 : ∀ x : Later u4.heap.size u4, x.u.cell? ⟨(w.heap.size + 1), 0, none⟩ = some (.int .u32 (ad : Int)) := fun x => x.block za ga0
    clear ga0
    obtain ⟨zt, gt0, gt1, gt2, gt3, gt4⟩ := id T_17
    have Ft1 : ∀ x : Later u4.heap.size u4, x.u.cell? ⟨p, 1, none⟩ = some (.int .u32 (t.own : Int)) := fun x => x.block zt gt1
    clear gt0 gt1 gt2 gt3 gt4
    refine region_later (B := u4.heap.size) (by kernel_rfl) (by kernel_rfl) ?_
    repeat (go_big_quiet_step (fail))
    refine later_end fun w5 x5 => ?_
    have T_21 := T_17.on x5
    have C_22 := C_18.on x5
    have A_23 := A_19.on x5
    have B24 := B20.trans (x5.mono B20.size)
    clear Fc0 zc Fa0 za Ft1 zt T_17 C_18 A_19 B20 x5
    go_wp2
    go_ret
    rw [HG.out]
    exact ⟨rfl, B24⟩
  · simp only [Bool.not_true, Bool.not_false, Bool.and_true, Bool.and_false, Bool.true_and, Bool.false_and, Bool.or_true, Bool.or_false, Bool.true_or, Bool.false_or] at HG
    go_enter Try.func25, Try.ntmps25
    have B1 := Below.refl w.heap.size w
    go_upto_region 1 with fail
    have T_2 := T0.past (o := (.cells #[.pointer (some ⟨p, 0, none⟩)] 24))
    have C_3 := Box1.make w (.pointer (some ⟨p, 0, none⟩)) 24
    have B4 := B1.alloc B1.size (.cells #[.pointer (some ⟨p, 0, none⟩)] 24)
    clear T0 B1
    have T_5 := T_2.past (o := (.cells #[.int .u32 (ad : Int)] 29))
    have C_6 := C_3.past (o := (.cells #[.int .u32 (ad : Int)] 29))
    have hs_ : (w.alloc (.cells #[.pointer (some ⟨p, 0, none⟩)] 24)).heap.size = w.heap.size + 1 := by simp
    have A_7 := Box1.make (w.alloc (.cells #[.pointer (some ⟨p, 0, none⟩)] 24)) (.int .u32 (ad : Int)) 29
    rw [hs_] at A_7
    clear hs_
    have B8 := B4.alloc B4.size (.cells #[.int .u32 (ad : Int)] 29)
    clear T_2 C_3 B4
    obtain ⟨u1, hu1⟩ : ∃ x_ : World, x_ = (w.alloc (.cells #[.pointer (some ⟨p, 0, none⟩)] 24)).alloc (.cells #[.int .u32 (ad : Int)] 29) := ⟨_, rfl⟩
    rw [← hu1] at T_5 C_6 A_7 B8 ⊢
    clear hu1
    obtain ⟨_, c1_0⟩ := id C_6
    obtain ⟨_, t2_0, t2_1, t2_2, t2_3, t2_4⟩ := id T_5
    go_wp2_with fail
    refine (n _ T_5).mono ?_; rintro e w2 ⟨rfl, x2⟩
    have T_9 := T_5.on x2
    have C_10 := C_6.on x2
    have A_11 := A_7.on x2
    have B12 := B8.trans (x2.mono B8.size)
    clear c1_0 t2_0 t2_1 t2_2 t2_3 t2_4 T_5 C_6 A_7 B8 x2
    obtain ⟨_, c3_0⟩ := id C_10
    obtain ⟨_, t4_0, t4_1, t4_2, t4_3, t4_4⟩ := id T_9
    go_wp2_with fail
    refine (c _ T_9 (RZ.out.on B12) (outerP_ t ad p _ _ _ t.rs _ T_9 C_10 A_11)).mono ?_; rintro e w3 ⟨rfl, x3⟩
    have T_13 := T_9.on x3
    have C_14 := C_10.on x3
    have A_15 := A_11.on x3
    have B16 := B12.trans (x3.mono B12.size)
    clear c3_0 t4_0 t4_1 t4_2 t4_3 t4_4 T_9 C_10 A_11 B12 x3
    go_upto_region 4 with fail
    have T_17 := T_13.past (o := (.cells #[.int .i64 q.k, .int .u8 q.pr, .int .u32 (q.si : Int), .int .i64 q.sb, .int .u32 (q.di : Int), .int .i64 q.db, .int .u32 (q.ex : Int), .int .u16 q.fr, .int .u16 q.to, .int .u32 (q.ii : Int), .int .u16 q.ip] 42))
    have C_18 := C_14.past (o := (.cells #[.int .i64 q.k, .int .u8 q.pr, .int .u32 (q.si : Int), .int .i64 q.sb, .int .u32 (q.di : Int), .int .i64 q.db, .int .u32 (q.ex : Int), .int .u16 q.fr, .int .u16 q.to, .int .u32 (q.ii : Int), .int .u16 q.ip] 42))
    have A_19 := A_15.past (o := (.cells #[.int .i64 q.k, .int .u8 q.pr, .int .u32 (q.si : Int), .int .i64 q.sb, .int .u32 (q.di : Int), .int .i64 q.db, .int .u32 (q.ex : Int), .int .u16 q.fr, .int .u16 q.to, .int .u32 (q.ii : Int), .int .u16 q.ip] 42))
    have B20 := B16.alloc B16.size (.cells #[.int .i64 q.k, .int .u8 q.pr, .int .u32 (q.si : Int), .int .i64 q.sb, .int .u32 (q.di : Int), .int .i64 q.db, .int .u32 (q.ex : Int), .int .u16 q.fr, .int .u16 q.to, .int .u32 (q.ii : Int), .int .u16 q.ip] 42)
    clear T_13 C_14 A_15 B16
    obtain ⟨u4, hu4⟩ : ∃ x_ : World, x_ = w3.alloc (.cells #[.int .i64 q.k, .int .u8 q.pr, .int .u32 (q.si : Int), .int .i64 q.sb, .int .u32 (q.di : Int), .int .i64 q.db, .int .u32 (q.ex : Int), .int .u16 q.fr, .int .u16 q.to, .int .u32 (q.ii : Int), .int .u16 q.ip] 42) := ⟨_, rfl⟩
    rw [← hu4] at T_17 C_18 A_19 B20 ⊢
    clear hu4
    obtain ⟨zc, gc0⟩ := id C_18
    have Fc0 : ∀ x : Later u4.heap.size u4, x.u.cell? ⟨w.heap.size, 0, none⟩ = some (.pointer (some ⟨p, 0, none⟩)) := fun x => x.block zc gc0
    clear gc0
    obtain ⟨za, ga0⟩ := id A_19
    have Fa0 : ∀ x : Later u4.heap.size u4, x.u.cell? ⟨(w.heap.size + 1), 0, none⟩ = some (.int .u32 (ad : Int)) := fun x => x.block za ga0
    clear ga0
    obtain ⟨zt, gt0, gt1, gt2, gt3, gt4⟩ := id T_17
    have Ft1 : ∀ x : Later u4.heap.size u4, x.u.cell? ⟨p, 1, none⟩ = some (.int .u32 (t.own : Int)) := fun x => x.block zt gt1
    clear gt0 gt1 gt2 gt3 gt4
    refine region_later (B := u4.heap.size) (by kernel_rfl) (by kernel_rfl) ?_
    repeat (go_big_quiet_step (fail))
    refine later_end fun w5 x5 => ?_
    have T_21 := T_17.on x5
    have C_22 := C_18.on x5
    have A_23 := A_19.on x5
    have B24 := B20.trans (x5.mono B20.size)
    clear Fc0 zc Fa0 za Ft1 zt T_17 C_18 A_19 B20 x5
    go_wp2
    go_ret
    rw [HG.out]
    exact ⟨rfl, B24⟩
set_option maxHeartbeats 4000000 in
set_option maxRecDepth 100000 in
theorem listC_ (t : Tm) (B p : Nat) (v : Value) (w : World) (T0 : Box5 w p (.bool true) (.int .u32 (t.own : Int)) (.int .u32 (t.ip : Int)) (.int .i64 t.bits) v) (R0 : RowC w B v t.rs) (hl : t.rs.length ≤ 1000) :
    Calls Try.prog 21 #[.pointer (some ⟨p, 0, none⟩)] w fun e w' => ∃ v', e = .returned v' ∧ RowC w' w.heap.size v' t.rs ∧ Below w.heap.size w w' := by
  have n := fun (u : World) (T : Box5 u p (.bool true) (.int .u32 (t.own : Int)) (.int .u32 (t.ip : Int)) (.int .i64 t.bits) v) => none_ t p _ u T
  have c := fun (u : World) (R : RowC u B v t.rs) => clone_ B v t.rs u R hl
  have RZ := Lib.hid R0
  clear R0 hl
  go_enter Try.func21, Try.ntmps21
  have B1 := Below.refl w.heap.size w
  obtain ⟨_, t1_0, t1_1, t1_2, t1_3, t1_4⟩ := id T0
  go_wp2_with fail
  refine (n _ T0).mono ?_; rintro e w1 ⟨rfl, x1⟩
  have T_2 := T0.on x1
  have B3 := B1.trans (x1.mono B1.size)
  clear t1_0 t1_1 t1_2 t1_3 t1_4 T0 B1 x1
  obtain ⟨_, t2_0, t2_1, t2_2, t2_3, t2_4⟩ := id T_2
  go_wp2_with fail
  refine (c _ (RZ.out.on B3)).mono ?_; rintro e w9 ⟨v9, rfl, r9, b9⟩
  go_wp2
  go_ret
  exact ⟨v9, rfl, r9.low B3.size, B3.trans (b9.mono B3.size)⟩
/-- A table of the code's in memory: its box at p, the slice v of its rules; both from block B on. -/
structure TabC (w : World) (B p : Nat) (v : Value) (t : Tm) : Prop where
  box : Box5 w p (.bool true) (.int .u32 (t.own : Int)) (.int .u32 (t.ip : Int)) (.int .i64 t.bits) v
  row : RowC w B v t.rs
  low : B ≤ p
  ne : v.ownBlock ≠ some p
  fz : ∀ i, w.frozen? ⟨p, i, none⟩ = false
theorem Box5.keep {w w' : World} {b : Nat} {v0 v1 v2 v3 v4 : Value} (h : Box5 w b v0 v1 v2 v3 v4) (hs : w.heap.size ≤ w'.heap.size) (hb : w'.heap[b]? = w.heap[b]?) : Box5 w' b v0 v1 v2 v3 v4 := by
  obtain ⟨h, h0, h1, h2, h3, h4⟩ := h
  have e : ∀ i : Nat, w'.cell? ⟨b, i, none⟩ = w.cell? ⟨b, i, none⟩ := fun i => World.cell?_of_block (w := w) hb
  exact ⟨Nat.lt_of_lt_of_le h hs, (e 0).trans h0, (e 1).trans h1, (e 2).trans h2, (e 3).trans h3, (e 4).trans h4⟩
theorem TabC.keep {w w' : World} {B p : Nat} {v : Value} {t : Tm} (h : TabC w B p v t) (hs : w.heap.size ≤ w'.heap.size) (hp : w'.heap[p]? = w.heap[p]?) (hv : ∀ g, v.ownBlock = some g → w'.heap[g]? = w.heap[g]?) : TabC w' B p v t :=
  ⟨h.box.keep hs hp, h.row.kept hs hv, h.low, h.ne, fun i => (World.frozen?_of_block (w := w) hp : w'.frozen? ⟨p, i, none⟩ = w.frozen? ⟨p, i, none⟩).trans (h.fz i)⟩
theorem RowC.slice {w : World} {B : Nat} {v : Value} {rs : List Ru} (h : RowC w B v rs) : ∃ a cap, v = .slice a rs.length cap := by
  rcases h.kinds with ⟨rfl, rfl⟩ | ⟨g, c, rfl⟩
  · exact ⟨none, 0, rfl⟩
  · exact ⟨_, c, rfl⟩
theorem TabC.on {w w' : World} {B p : Nat} {v : Value} {t : Tm} (h : TabC w B p v t) (hb : Below w.heap.size w w') : TabC w' B p v t := h.keep hb.size (hb.block p h.box.1) fun g hg => hb.block g (h.row.lt g hg).2
theorem TabC.less {w : World} {A B p : Nat} {v : Value} {t : Tm} (h : TabC w B p v t) (hA : A ≤ B) : TabC w A p v t := ⟨h.box, h.row.low hA, Nat.le_trans hA h.low, h.ne, h.fz⟩
/-- The blocks that are a table's. -/
def footC (p : Nat) (v : Value) (k : Nat) : Prop := k = p ∨ v.ownBlock = some k
theorem TabC.beside {w w' : World} {S : Nat → Prop} {B p : Nat} {v : Value} {t : Tm} (h : TabC w B p v t) (hb : Beside S w w') (hn : ∀ k, footC p v k → ¬ S k) : TabC w' B p v t :=
  h.keep hb.size (hb.block p h.box.1 (hn p (.inl rfl))) fun g hg => hb.block g (h.row.lt g hg).2 (hn g (.inr hg))
set_option maxHeartbeats 4000000 in
set_option maxRecDepth 100000 in
theorem copyC_ (t : Tm) (B p : Nat) (v : Value) (w : World) (H : TabC w B p v t) (hl : t.rs.length ≤ 1000) :
    Calls Try.prog 19 #[.pointer (some ⟨p, 0, none⟩)] w fun e w' => ∃ q v', e = .returned (.pointer (some ⟨q, 0, none⟩)) ∧ TabC w' w.heap.size q v' t ∧ Below w.heap.size w w' := by
  obtain ⟨a, cap, rfl⟩ := H.row.slice
  have n := fun (u : World) (T : Box5 u p (.bool true) (.int .u32 (t.own : Int)) (.int .u32 (t.ip : Int)) (.int .i64 t.bits) (.slice a t.rs.length cap)) => none_ t p _ u T
  have c := fun (u : World) (R : RowC u B (.slice a t.rs.length cap) t.rs) => clone_ B _ t.rs u R hl
  have RZ := Lib.hid H.row
  have T0 := H.box
  clear H
  have HL := Lib.hid hl
  clear hl
  generalize hG : t.rs.length = N at *
  clear hG
  go_enter Try.func19, Try.ntmps19
  have B1 := Below.refl w.heap.size w
  obtain ⟨_, t1_0, t1_1, t1_2, t1_3, t1_4⟩ := id T0
  go_wp2_with fail
  refine (n _ T0).mono ?_; rintro e w1 ⟨rfl, x1⟩
  have T_2 := T0.on x1
  have B3 := B1.trans (x1.mono B1.size)
  clear t1_0 t1_1 t1_2 t1_3 t1_4 T0 B1 x1
  have zw : w.heap.size ≤ w1.heap.size := B3.size
  obtain ⟨_, t2_0, t2_1, t2_2, t2_3, t2_4⟩ := id T_2
  go_upto_region 4 with fail
  clear t2_0 t2_1 t2_2 t2_3 t2_4
  have T_4 := T_2.past (o := (.cells #[.bool true, .int .u32 (t.own : Int), .int .u32 (t.ip : Int), .int .i64 t.bits, .slice a N cap] 62))
  have Q_5 := Box5.make w1 (.bool true) (.int .u32 (t.own : Int)) (.int .u32 (t.ip : Int)) (.int .i64 t.bits) (.slice a N cap) 62
  have B6 := B3.alloc B3.size (.cells #[.bool true, .int .u32 (t.own : Int), .int .u32 (t.ip : Int), .int .i64 t.bits, .slice a N cap] 62)
  clear T_2 B3
  have fzQ_7 : ∀ i, (w1.alloc (.cells #[.bool true, .int .u32 (t.own : Int), .int .u32 (t.ip : Int), .int .i64 t.bits, .slice a N cap] 62)).frozen? ⟨w1.heap.size, i, none⟩ = false := by intro i; simp [go_sem]
  obtain ⟨u2, hu2⟩ : ∃ x_ : World, x_ = w1.alloc (.cells #[.bool true, .int .u32 (t.own : Int), .int .u32 (t.ip : Int), .int .i64 t.bits, .slice a N cap] 62) := ⟨_, rfl⟩
  rw [← hu2] at T_4 Q_5 fzQ_7 B6 ⊢
  clear hu2
  have su : w1.heap.size < u2.heap.size := Q_5.1
  have HQ := Lib.hid Q_5
  have HF := Lib.hid fzQ_7
  obtain ⟨_, t3_0, t3_1, t3_2, t3_3, t3_4⟩ := id T_4
  obtain ⟨_, q4_0, q4_1, q4_2, q4_3, q4_4⟩ := id Q_5
  go_wp2_with fail
  refine (c _ (RZ.out.on B6)).mono ?_; rintro e w9 ⟨v9, rfl, r9, b9⟩
  clear t3_0 t3_1 t3_2 t3_3 t3_4 q4_0 q4_1 q4_2 q4_3 q4_4
  obtain ⟨a9, c9, rfl⟩ := r9.slice
  have Q9 := HQ.out.on b9
  have F9 : ∀ i, w9.frozen? ⟨w1.heap.size, i, none⟩ = false := fun i => (b9.frozen (p := ⟨_, i, none⟩) su).trans (HF.out i)
  have B9 := B6.trans (b9.mono B6.size)
  obtain ⟨_, q0, q1, q2, q3, q4⟩ := id Q9
  go_wp2
  go_ret
  have B10 := B9.setCell (p := ⟨w1.heap.size, 4, none⟩) zw (.slice a9 t.rs.length c9)
  refine ⟨w1.heap.size, .slice a9 t.rs.length c9, rfl, ⟨?_, ?_, ?_, ?_, ?_⟩, B10⟩
  · exact ⟨by have := Q9.1; simpa using this, by simp [go_sem, q0], by simp [go_sem, q1], by simp [go_sem, q2], by simp [go_sem, q3], by simp [go_sem, q4]⟩
  · refine RowC.kept (r9.low (Nat.le_trans zw (Nat.le_of_lt su))) (by simp) fun g hg => ?_
    have := (r9.lt g hg).1
    exact Below.heap_setCell _ _ _ _ (show g ≠ w1.heap.size by omega)
  · exact zw
  · intro hg
    have := (r9.lt _ hg).1
    omega
  · intro i
    rw [World.frozen?_setCell]
    exact F9 i
theorem Beside.grown {w w' : World} {row : Option Nat} (h : w.grownBy w' row) : Beside (fun k => row = some k) w w' := ⟨h.os, h.tape, h.output, h.size, fun k hk hn => h.block k hk (fun e => hn e.symm)⟩
theorem TabC.stored {w : World} {B p : Nat} {v v' : Value} {t t' : Tm} (T : Box5 w p (.bool true) (.int .u32 (t.own : Int)) (.int .u32 (t.ip : Int)) (.int .i64 t.bits) v) (F : ∀ i, w.frozen? ⟨p, i, none⟩ = false) (L : B ≤ p) (R : RowC w B v' t'.rs) (hne : v'.ownBlock ≠ some p) (ho : t'.own = t.own) (hi : t'.ip = t.ip) (hb : t'.bits = t.bits) : TabC (w.setCell ⟨p, 4, none⟩ v') B p v' t' := by
  obtain ⟨z, c0, c1, c2, c3, c4⟩ := T
  refine ⟨⟨by simpa using z, by simp [go_sem, c0], by rw [ho]; simp [go_sem, c1], by rw [hi]; simp [go_sem, c2], by rw [hb]; simp [go_sem, c3], by simp [go_sem, c4]⟩, ?_, L, hne, fun i => by rw [World.frozen?_setCell]; exact F i⟩
  refine R.kept (by simp) fun g hg => ?_
  exact Below.heap_setCell _ _ _ _ (show g ≠ p from fun e => hne (by rw [hg, e]))

set_option maxHeartbeats 4000000 in
set_option maxRecDepth 100000 in
theorem deleteC_ (t : Tm) (B p : Nat) (v : Value) (i : Int) (w : World) (H : TabC w B p v t) (hl : t.rs.length ≤ 1000) :
    Calls Try.prog 17 #[.pointer (some ⟨p, 0, none⟩), .int .i64 i] w fun e w' => e = .returned (.int .i64 (ruDelE t i)) ∧ ∃ v', TabC w' B p v' (ruDelT t i) ∧ Beside (footC p v) w w' ∧ v'.ownBlock = v.ownBlock := by
  have HZ := Lib.hid H
  by_cases hi : i < 0 ∨ (t.rs.length : Int) ≤ i
  · have HV : Hid (ruDelE t i = 2 ∧ ruDelT t i = t) := by
      have e : ruDelE t i = 2 := by unfold ruDelE; rw [if_pos hi]
      exact ⟨e, by unfold ruDelT; rw [if_neg (by rw [e]; omega)]⟩
    obtain ⟨a, cap, rfl⟩ := H.row.slice
    have n := fun (u : World) (T : Box5 u p (.bool true) (.int .u32 (t.own : Int)) (.int .u32 (t.ip : Int)) (.int .i64 t.bits) (.slice a t.rs.length cap)) => none_ t p _ u T
    have T0 := H.box
    have HI := Lib.hid hi
    clear H hl
    rcases hi with hi | hi
    · have e1 : decide (i < 0) = true := by simpa using hi
      clear hi
      go_enter Try.func17, Try.ntmps17
      have B1 := Below.refl w.heap.size w
      obtain ⟨_, t1_0, t1_1, t1_2, t1_3, t1_4⟩ := id T0
      go_wp2_with fail
      refine (n _ T0).mono ?_; rintro e w1 ⟨rfl, x1⟩
      have T_2 := T0.on x1
      have B3 := B1.trans (x1.mono B1.size)
      clear t1_0 t1_1 t1_2 t1_3 t1_4 T0 B1 x1
      obtain ⟨_, t2_0, t2_1, t2_2, t2_3, t2_4⟩ := id T_2
      go_wp2
      go_ret
      rw [HV.out.1, HV.out.2]
      exact ⟨rfl, _, HZ.out.on B3, Beside.of B3, rfl⟩
    · have e1 : decide ((t.rs.length : Int) ≤ i) = true := by simpa using hi
      have e2 : decide (i < 0) = false := by simp; omega
      have e3 : ¬ (i < 0) := by omega
      clear HI
      go_enter Try.func17, Try.ntmps17
      have B1 := Below.refl w.heap.size w
      obtain ⟨_, t1_0, t1_1, t1_2, t1_3, t1_4⟩ := id T0
      go_wp2_with fail
      refine (n _ T0).mono ?_; rintro e w1 ⟨rfl, x1⟩
      have T_2 := T0.on x1
      have B3 := B1.trans (x1.mono B1.size)
      clear t1_0 t1_1 t1_2 t1_3 t1_4 T0 B1 x1
      obtain ⟨_, t2_0, t2_1, t2_2, t2_3, t2_4⟩ := id T_2
      go_wp2
      go_ret
      rw [HV.out.1, HV.out.2]
      exact ⟨rfl, _, HZ.out.on B3, Beside.of B3, rfl⟩
  · obtain ⟨k, rfl⟩ : ∃ k : Nat, i = (k : Int) := ⟨i.toNat, by omega⟩
    have hk : k < t.rs.length := by omega
    have HV : Hid (ruDelE t (k : Int) = 0 ∧ ruDelT t (k : Int) = { t with rs := t.rs.take k ++ t.rs.drop (k + 1) }) := by
      have e : ruDelE t (k : Int) = 0 := by unfold ruDelE; rw [if_neg hi]
      exact ⟨e, by unfold ruDelT; rw [if_pos e, Int.toNat_natCast]⟩
    obtain ⟨g, cap, rfl⟩ : ∃ g cap, v = .slice (some ⟨g, 0, none⟩) t.rs.length cap := by
      rcases H.row.kinds with ⟨_, h0⟩ | h
      · rw [h0] at hk; simp at hk
      · exact h
    have n := fun (u : World) (T : Box5 u p (.bool true) (.int .u32 (t.own : Int)) (.int .u32 (t.ip : Int)) (.int .i64 t.bits) (.slice (some ⟨g, 0, none⟩) t.rs.length cap)) => none_ t p _ u T
    have c := fun (u : World) (R : RowC u B (.slice (some ⟨g, 0, none⟩) t.rs.length cap) t.rs) => delete_ B t.rs k g cap u R hl hk
    have T0 := H.box
    have hne : g ≠ p := fun e => H.ne (by rw [e]; rfl)
    have e1 : decide ((k : Int) < 0) = false := by simp
    have e2 : decide ((t.rs.length : Int) ≤ (k : Int)) = false := by simp; omega
    have e3 : ¬ ((t.rs.length : Int) ≤ (k : Int)) := by omega
    have e4 : (k : Int) + 1 ≤ 1001 := by omega
    have HL := Lib.hid hl
    have HK := Lib.hid hk
    clear H hi hl hk
    go_enter Try.func17, Try.ntmps17
    have B1 := Below.refl w.heap.size w
    obtain ⟨_, t1_0, t1_1, t1_2, t1_3, t1_4⟩ := id T0
    go_wp2_with fail
    refine (n _ T0).mono ?_; rintro e w1 ⟨rfl, x1⟩
    have T_2 := T0.on x1
    have B3 := B1.trans (x1.mono B1.size)
    clear t1_0 t1_1 t1_2 t1_3 t1_4 T0 B1 x1
    obtain ⟨_, t2_0, t2_1, t2_2, t2_3, t2_4⟩ := id T_2
    go_wp2_with fail
    clear t2_0 t2_1 t2_2 t2_3 t2_4
    have H1 := HZ.out.on B3
    refine (c _ H1.row).mono ?_; rintro e w9 ⟨rfl, r9, g9⟩
    have gp := g9.block p H1.box.1 (fun e => hne (by simpa using e.symm))
    have T9 := H1.box.keep g9.size gp
    have F9 : ∀ i, w9.frozen? ⟨p, i, none⟩ = false := fun i => (World.frozen?_of_block (w := w1) gp : w9.frozen? ⟨p, i, none⟩ = w1.frozen? ⟨p, i, none⟩).trans (H1.fz i)
    have K9 := Lib.hid (And.intro H1 (And.intro r9 g9))
    clear H1 r9 g9 gp
    have KT := Lib.hid T9
    have KF := Lib.hid F9
    obtain ⟨_, t0, t1, t2, t3, t4⟩ := id T9
    go_wp2
    go_ret
    rw [HV.out.1, HV.out.2]
    obtain ⟨H1, r9, g9⟩ := K9.out
    have b9 : Beside (footC p (.slice (some ⟨g, 0, none⟩) t.rs.length cap)) w w9 := (Beside.of B3).trans ((Beside.grown g9).seq (Beside.refl _ _) (fun _ _ h => h) |>.mono fun k _ e => .inr e)
    have q9 : ({ t with rs := t.rs.take k ++ t.rs.drop (k + 1) } : Tm).rs.length = t.rs.length - 1 := by have := HK.out; simp; omega
    exact ⟨rfl, _, TabC.stored (t := t) KT.out KF.out H1.low r9 (fun e => hne (by simpa [Value.ownBlock] using e)) rfl rfl rfl, b9.setCell (p := ⟨p, 4, none⟩) (.inl rfl) _, rfl⟩
end Go.Proofs.Ytoogegpkgohffaa
