/- Layer 16: Same. Written by gen_same.py. -/
import Derived.Test.YtbbadpidolfleaaPoU
namespace Go.Proofs.Ytbbadpidolfleaa
set_option linter.unusedVariables false
set_option maxRecDepth 100000
set_option linter.unusedSimpArgs false
open Go.ChangeShapes Go.WideShapes Go.ChangeAt Go.RowKit Go.PlainAid
attribute [local go_sem ↓] Go.wp_at_zero Go.wp_at_succ
/-- A row in a slice. -/
structure RoAt (w : World) (b o : Nat) (r : Ro) : Prop where
  lt : b < w.heap.size
  c0 : w.cell? ⟨b, o, none⟩ = some (.int .u8 r.pr)
  c1 : w.cell? ⟨b, o + 1, none⟩ = some (.int .u32 r.oi)
  c2 : w.cell? ⟨b, o + 2, none⟩ = some (.int .u16 r.op)
  c3 : w.cell? ⟨b, o + 3, none⟩ = some (.int .u32 r.ii)
  c4 : w.cell? ⟨b, o + 4, none⟩ = some (.int .u16 r.ip)
  c5 : w.cell? ⟨b, o + 5, none⟩ = some (.int .i64 (r.lv : Int))
  c6 : w.cell? ⟨b, o + 6, none⟩ = some (.int .i64 (r.hd : Int))
theorem RoAt.on {w w' : World} {b o : Nat} {r : Ro} (h : RoAt w b o r) (hb : Below w.heap.size w w') : RoAt w' b o r :=
  ⟨Nat.lt_of_lt_of_le h.lt hb.size, (hb.cell (p := ⟨b, o, none⟩) h.lt).trans h.c0, (hb.cell (p := ⟨b, o + 1, none⟩) h.lt).trans h.c1, (hb.cell (p := ⟨b, o + 2, none⟩) h.lt).trans h.c2, (hb.cell (p := ⟨b, o + 3, none⟩) h.lt).trans h.c3, (hb.cell (p := ⟨b, o + 4, none⟩) h.lt).trans h.c4, (hb.cell (p := ⟨b, o + 5, none⟩) h.lt).trans h.c5, (hb.cell (p := ⟨b, o + 6, none⟩) h.lt).trans h.c6⟩
theorem RoAt.by {w w' : World} {b o : Nat} {r : Ro} {S : Nat → Prop} (h : RoAt w b o r) (hb : Beside S w w') (hn : ¬ S b) : RoAt w' b o r :=
  ⟨Nat.lt_of_lt_of_le h.lt hb.size, (hb.cell (p := ⟨b, o, none⟩) h.lt hn).trans h.c0, (hb.cell (p := ⟨b, o + 1, none⟩) h.lt hn).trans h.c1, (hb.cell (p := ⟨b, o + 2, none⟩) h.lt hn).trans h.c2, (hb.cell (p := ⟨b, o + 3, none⟩) h.lt hn).trans h.c3, (hb.cell (p := ⟨b, o + 4, none⟩) h.lt hn).trans h.c4, (hb.cell (p := ⟨b, o + 5, none⟩) h.lt hn).trans h.c5, (hb.cell (p := ⟨b, o + 6, none⟩) h.lt hn).trans h.c6⟩
theorem row_at16 {w : World} {a : Option Addr} {c : Nat} {l : List Ro} (h : eltR.Sl w a c l) {i : Nat} (hi : i < l.length) : ∃ b off, a = some ⟨b, off, none⟩ ∧ RoAt w b (off + i * 7) (l.getD i Ro.zero) := by
  obtain ⟨b, off, e, h1, h2⟩ := h.row.at hi
  exact ⟨b, off, e, h1, h2 0 _ (by decide) rfl, h2 1 _ (by decide) rfl, h2 2 _ (by decide) rfl, h2 3 _ (by decide) rfl, h2 4 _ (by decide) rfl, h2 5 _ (by decide) rfl, h2 6 _ (by decide) rfl⟩
set_option maxHeartbeats 8000000 in
theorem same16_ (K : PortsOk) {w0 w : World} {S T : Nat → Prop} {p q : Nat} {X : Po} (h : Pair K.toObjP poR w0 w S T p q X X) (few : X.Few 1000) : Says Try.prog 13 #[.pointer (some ⟨p, 0, none⟩), .pointer (some ⟨q, 0, none⟩)] w (.bool true) := by
  show Calls _ _ _ _ _
  obtain ⟨v, D⟩ := id h.snd
  obtain ⟨a2, c2, hv, _, _, _⟩ := D.sl
  have kl := K.lists p S X w h.fst few
  have HP := Lib.hid h
  have HF := Lib.hid few
  have HD := Lib.hid D
  have HV := Lib.hid hv
  clear h few D hv
  go_enter Try.func13, Try.ntmps13
  go_upto_region 2 with (go_at_call 25; refine kl.mono ?_; rintro e w1 ⟨a1, c1, rfl, b1, sl, nb⟩)
  have P1 := HP.out.on b1
  have q1 := (HD.out.on b1).c0
  rw [HV.out] at q1
  have HK := Lib.hid (And.intro b1 sl)
  clear b1 sl nb kl
  refine wp_region_noPanic ?_
  refine wp_region_held_drew (S := (fun w' => w'.cell? ⟨q, 0, none⟩ = some (.slice a2 X.l.length c2))) (by kernel_rfl) ?_ (fun hHeld => ?_)
  · exact q1
  have P2 := P1.on (Below.refl w1.heap.size w1).drew
  have B2 : Below w.heap.size w w1.drew := HK.out.1.drew
  have S2 := HK.out.2.on (w' := w1.drew) (Below.refl _ _).drew
  generalize w1.drew = w2 at P2 B2 S2 hHeld ⊢
  clear P1 HK q1
  refine wpAnyH_take (i := 0) (oi := _) (v := ?_) rfl (by kernel_rfl) (by kernel_rfl) (by kernel_rfl) (fun _ _ _ h => h) (Or.inl ⟨by kernel_rfl, ?_⟩) (by assumption) ?_
  rotate_left
  · intro w hSw
    clear hSw
    go_simp
    with_reducible rfl
  try simp only [List.getElem_toArray, List.getElem_cons_succ, List.getElem_cons_zero, Act.put, List.setIfInBounds_toArray, List.set_cons_zero, List.set_cons_succ]
  refine wpAnyH_take (i := 1) (oi := _) (v := ?_) rfl (by kernel_rfl) (by kernel_rfl) (by kernel_rfl) (fun _ _ _ h => h) (Or.inl ⟨by kernel_rfl, ?_⟩) (by assumption) ?_
  rotate_left
  · intro w hSw
    clear hSw
    go_simp
    with_reducible rfl
  try simp only [List.getElem_toArray, List.getElem_cons_succ, List.getElem_cons_zero, Act.put, List.setIfInBounds_toArray, List.set_cons_zero, List.set_cons_succ]
  refine wpAnyH_take (i := 2) (oi := _) (v := ?_) rfl (by kernel_rfl) (by kernel_rfl) (by kernel_rfl) (fun _ _ _ h => h) (Or.inl ⟨by kernel_rfl, ?_⟩) (by assumption) ?_
  rotate_left
  · intro w hSw
    clear hSw
    go_simp
    with_reducible rfl
  try simp only [List.getElem_toArray, List.getElem_cons_succ, List.getElem_cons_zero, Act.put, List.setIfInBounds_toArray, List.set_cons_zero, List.set_cons_succ]
  refine wpAnyH_take (i := 3) (oi := _) (v := ?_) rfl (by kernel_rfl) (by kernel_rfl) (by kernel_rfl) (fun _ _ _ h => h) (Or.inl ⟨by kernel_rfl, ?_⟩) (by assumption) ?_
  rotate_left
  · intro w hSw
    clear hSw
    go_simp
    with_reducible rfl
  try simp only [List.getElem_toArray, List.getElem_cons_succ, List.getElem_cons_zero, Act.put, List.setIfInBounds_toArray, List.set_cons_zero, List.set_cons_succ]
  refine wpAnyH_take (i := 4) (oi := _) (v := ?_) rfl (by kernel_rfl) (by kernel_rfl) (by kernel_rfl) (fun _ _ _ h => h) (Or.inl ⟨by kernel_rfl, ?_⟩) (by assumption) ?_
  rotate_left
  · intro w hSw
    clear hSw
    go_simp
    with_reducible rfl
  try simp only [List.getElem_toArray, List.getElem_cons_succ, List.getElem_cons_zero, Act.put, List.setIfInBounds_toArray, List.set_cons_zero, List.set_cons_succ]
  refine wpAnyH_take (i := 5) (oi := _) (v := ?_) rfl (by kernel_rfl) (by kernel_rfl) (by kernel_rfl) (fun _ _ _ h => h) (Or.inl ⟨by kernel_rfl, ?_⟩) (by assumption) ?_
  rotate_left
  · intro w hSw
    (try dsimp only at hSw)
    go_simp
    with_reducible rfl
  try simp only [List.getElem_toArray, List.getElem_cons_succ, List.getElem_cons_zero, Act.put, List.setIfInBounds_toArray, List.set_cons_zero, List.set_cons_succ]
  refine wpAnyH_take (i := 6) (oi := _) (v := ?_) rfl (by kernel_rfl) (by kernel_rfl) (by kernel_rfl) (fun _ _ _ h => h) (Or.inl ⟨by kernel_rfl, ?_⟩) (by assumption) ?_
  rotate_left
  · intro w hSw
    clear hSw
    go_simp
    with_reducible rfl
  try simp only [List.getElem_toArray, List.getElem_cons_succ, List.getElem_cons_zero, Act.put, List.setIfInBounds_toArray, List.set_cons_zero, List.set_cons_succ]
  refine wpAnyH_take (i := 7) (oi := _) (v := ?_) rfl (by kernel_rfl) (by kernel_rfl) (by kernel_rfl) (fun _ _ _ h => h) (Or.inl ⟨by kernel_rfl, ?_⟩) (by assumption) ?_
  rotate_left
  · intro w hSw
    clear hSw
    go_simp
    with_reducible rfl
  try simp only [List.getElem_toArray, List.getElem_cons_succ, List.getElem_cons_zero, Act.put, List.setIfInBounds_toArray, List.set_cons_zero, List.set_cons_succ]
  refine wpAnyH_take (i := 8) (oi := _) (v := ?_) rfl (by kernel_rfl) (by kernel_rfl) (by kernel_rfl) (fun _ _ _ h => h) (Or.inl ⟨by kernel_rfl, ?_⟩) (by assumption) ?_
  rotate_left
  · intro w hSw
    clear hSw
    go_simp
    with_reducible rfl
  try simp only [List.getElem_toArray, List.getElem_cons_succ, List.getElem_cons_zero, Act.put, List.setIfInBounds_toArray, List.set_cons_zero, List.set_cons_succ]
  refine wpAnyH_take (i := 9) (oi := _) (v := ?_) rfl (by kernel_rfl) (by kernel_rfl) (by kernel_rfl) (fun _ _ _ h => h) (Or.inl ⟨by kernel_rfl, ?_⟩) (by assumption) ?_
  rotate_left
  · intro w hSw
    clear hSw
    go_simp
    with_reducible rfl
  try simp only [List.getElem_toArray, List.getElem_cons_succ, List.getElem_cons_zero, Act.put, List.setIfInBounds_toArray, List.set_cons_zero, List.set_cons_succ]
  refine wpAnyH_take (i := 11) (oi := _) (v := ?_) rfl (by kernel_rfl) (by kernel_rfl) (by kernel_rfl) (fun _ _ _ h => h) (Or.inl ⟨by kernel_rfl, ?_⟩) (by assumption) ?_
  rotate_left
  · intro w hSw
    clear hSw
    go_simp
    with_reducible rfl
  try simp only [List.getElem_toArray, List.getElem_cons_succ, List.getElem_cons_zero, Act.put, List.setIfInBounds_toArray, List.set_cons_zero, List.set_cons_succ]
  refine wpAnyH_take (i := 12) (oi := _) (v := ?_) rfl (by kernel_rfl) (by kernel_rfl) (by kernel_rfl) (fun _ _ _ h => h) (Or.inl ⟨by kernel_rfl, ?_⟩) (by assumption) ?_
  rotate_left
  · intro w hSw
    clear hSw
    go_simp
    with_reducible rfl
  try simp only [List.getElem_toArray, List.getElem_cons_succ, List.getElem_cons_zero, Act.put, List.setIfInBounds_toArray, List.set_cons_zero, List.set_cons_succ]
  refine wpAnyH_take (i := 13) (oi := _) (v := ?_) rfl (by kernel_rfl) (by kernel_rfl) (by kernel_rfl) (fun _ _ _ h => h) (Or.inl ⟨by kernel_rfl, ?_⟩) (by assumption) ?_
  rotate_left
  · intro w hSw
    clear hSw
    go_simp
    with_reducible rfl
  try simp only [List.getElem_toArray, List.getElem_cons_succ, List.getElem_cons_zero, Act.put, List.setIfInBounds_toArray, List.set_cons_zero, List.set_cons_succ]
  refine wpAnyH_take (i := 14) (oi := _) (v := ?_) rfl (by kernel_rfl) (by kernel_rfl) (by kernel_rfl) (fun _ _ _ h => h) (Or.inl ⟨by kernel_rfl, ?_⟩) (by assumption) ?_
  rotate_left
  · intro w hSw
    (try dsimp only at hSw)
    go_simp
    with_reducible rfl
  try simp only [List.getElem_toArray, List.getElem_cons_succ, List.getElem_cons_zero, Act.put, List.setIfInBounds_toArray, List.set_cons_zero, List.set_cons_succ]
  refine wpAnyH_take (i := 15) (oi := _) (v := ?_) rfl (by kernel_rfl) (by kernel_rfl) (by kernel_rfl) (fun _ _ _ h => h) (Or.inl ⟨by kernel_rfl, ?_⟩) (by assumption) ?_
  rotate_left
  · intro w hSw
    clear hSw
    go_simp
    with_reducible rfl
  try simp only [List.getElem_toArray, List.getElem_cons_succ, List.getElem_cons_zero, Act.put, List.setIfInBounds_toArray, List.set_cons_zero, List.set_cons_succ]
  refine wpAnyH_ready (rs := [10]) (by kernel_rfl) (by simp) ?_
  refine AllReadyH.cons (o := _) rfl (fun K_ hK => ?_) AllReadyH.nil
  go_simp
  refine (K.counts p S X w2 P2.fst HF.out).mono ?_; rintro e w3 ⟨rfl, b3⟩
  have P3 := P2.on b3
  have B3 := B2.trans (b3.mono B2.size)
  have S3 := S2.on b3
  show K_ _ _
  refine hK.out _ _ ((b3.cell (p := ⟨q, 0, none⟩) (poR.lt P2.snd q (by obtain ⟨_, d⟩ := P2.snd; exact d.inp))).trans hHeld) (fun hH1 => ?_)
  clear hK K_ hHeld
  have hHeld := hH1
  clear hH1
  try simp only [List.getElem_toArray, List.getElem_cons_succ, List.getElem_cons_zero, Act.put, List.setIfInBounds_toArray, List.set_cons_zero, List.set_cons_succ]
  clear P2 B2 S2 b3
  refine wpAnyH_take (i := 16) (oi := _) (v := ?_) rfl (by kernel_rfl) (by kernel_rfl) (by kernel_rfl) (fun _ _ _ h => h) (Or.inl ⟨by kernel_rfl, ?_⟩) (by assumption) ?_
  rotate_left
  · intro w hSw
    clear hSw
    go_simp
    with_reducible rfl
  try simp only [List.getElem_toArray, List.getElem_cons_succ, List.getElem_cons_zero, Act.put, List.setIfInBounds_toArray, List.set_cons_zero, List.set_cons_succ]
  refine wpAnyH_take (i := 17) (oi := _) (v := ?_) rfl (by kernel_rfl) (by kernel_rfl) (by kernel_rfl) (fun _ _ _ h => h) (Or.inl ⟨by kernel_rfl, ?_⟩) (by assumption) ?_
  rotate_left
  · intro w hSw
    clear hSw
    go_simp
    with_reducible rfl
  try simp only [List.getElem_toArray, List.getElem_cons_succ, List.getElem_cons_zero, Act.put, List.setIfInBounds_toArray, List.set_cons_zero, List.set_cons_succ]
  refine wpAnyH_done (by kernel_rfl) (NoPanic.normal ?_) _
  clear hHeld
  go_upto_region 5 with fail
  have L0 : Hid (Pair K.toObjP poR w0 w3 S T p q X X ∧ Below w.heap.size w w3 ∧ eltR.Sl w3 a1 c1 X.l) := ⟨P3, B3, S3⟩
  clear P3 B3 S3
  go_loopw [6, 7, 8, 9, 10] (fun si _ _ _ _ wr => ∃ i : Nat, i ≤ X.l.length ∧ si = .int .i64 (i : Int) ∧ Hid (Below w3.heap.size w3 wr)) (fun si _ _ _ _ _ => X.l.length - (intOf si).toNat)
  case atStart => exact ⟨0, Nat.zero_le _, rfl, Below.refl _ _⟩
  case round =>
    obtain ⟨i, hi, rfl, HB⟩ := hrel
    by_cases hlt : i < X.l.length
    · have EW := Lib.hid (step_16 (j := i) (Nat.lt_of_le_of_lt (Nat.le_trans hi HF.out.len) (by decide)))
      obtain ⟨e10, e12, e13⟩ := ix16 hlt
      have HI := Lib.hid hlt
      have PR := L0.out.1.on HB.out
      obtain ⟨b, off, ha, RA⟩ := row_at16 (L0.out.2.2.on HB.out) hlt
      obtain ⟨vq, DR⟩ := id PR.snd
      obtain ⟨g, cq, hq, hg, fr, y0, y1, y2, y3, y4, y5, y6⟩ := DR.at hlt
      have cq0 := DR.c0
      rw [hq] at cq0
      have hm := getD_mem Ro.zero hlt
      have okx := K.ok PR.fst
      have hof : X.ofI (X.l.getD i Ro.zero).pr (X.l.getD i Ro.zero).ii (X.l.getD i Ro.zero).ip = some (X.l.getD i Ro.zero) := okx.ofI hm
      have hoo : X.ofO (X.l.getD i Ro.zero).pr (X.l.getD i Ro.zero).oi (X.l.getD i Ro.zero).op = some (X.l.getD i Ro.zero) := okx.ofO hm
      have rok := okx.low _ hm
      obtain ⟨r, hr⟩ : ∃ r, r = X.l.getD i Ro.zero := ⟨_, rfl⟩
      rw [← hr] at RA y0 y1 y2 y3 y4 y5 y6 hof hoo rok
      have kof : Hid (∀ u, Below wr.heap.size wr u → Says Try.prog 14 #[.pointer (some ⟨p, 0, none⟩), .int .u8 r.pr, .agg #[.int .u32 r.ii, .int .u16 r.ip]] u (.tuple #[.agg #[.int .u8 r.pr, .int .u32 r.oi, .int .u16 r.op, .int .u32 r.ii, .int .u16 r.ip, .int .i64 (r.lv : Int), .int .i64 (r.hd : Int)], .bool true])) := fun u hu => by
        have k := K.ofs p S X r.pr r.ii r.ip u (PR.on hu).fst HF.out ⟨rok.pr0, rok.pr1, rok.ii0, rok.ii1, rok.ip0, rok.ip1⟩
        rw [hof] at k
        exact k
      have kow : Hid (∀ u, Below wr.heap.size wr u → Says Try.prog 15 #[.pointer (some ⟨p, 0, none⟩), .int .u8 r.pr, .agg #[.int .u32 r.oi, .int .u16 r.op]] u (.tuple #[.agg #[.int .u8 r.pr, .int .u32 r.oi, .int .u16 r.op, .int .u32 r.ii, .int .u16 r.ip, .int .i64 (r.lv : Int), .int .i64 (r.hd : Int)], .bool true])) := fun u hu => by
        have k := K.owners p S X r.pr r.oi r.op u (PR.on hu).fst HF.out ⟨rok.pr0, rok.pr1, rok.oi0, rok.oi1, rok.op0, rok.op1⟩
        rw [hoo] at k
        exact k
      have HRA := Lib.hid RA
      have HBL : Hid (b < wr.heap.size) := RA.lt
      obtain ⟨_, l0, l1, l2, l3, l4, l5, l6⟩ := RA
      clear hm okx hof hoo rok hr hi hlt PR DR hq hg fr
      subst ha
      go_upto_region 7 with fail
      go_region
      clear l0 l1 l2 l3 l4 l5 l6 y0 y1 y2 y3 y4 y5 y6 cq0
      go_upto_region 9 with fail
      have R9 := HRA.out.on (w' := wr.drew) (Below.refl _ _).drew
      have B9 : Below wr.heap.size wr wr.drew := (Below.refl _ _).drew
      generalize wr.drew = wd at R9 B9 ⊢
      clear HRA
      refine wp_region_noPanic ?_
      refine wp_region_held_drew (S := (fun w' => RoAt w' b (off + i * 7) r)) (by kernel_rfl) ?_ (fun hHeld => ?_)
      · exact R9.on (Below.refl _ _).drew
      have x0 := B9.drew
      generalize wd.drew = u1 at hHeld x0  ⊢
      clear R9 B9 
      refine wpAnyH_take (i := 0) (oi := _) (v := ?_) rfl (by kernel_rfl) (by kernel_rfl) (by kernel_rfl) (fun _ _ _ h => h) (Or.inl ⟨by kernel_rfl, ?_⟩) (by assumption) ?_
      rotate_left
      · intro w hSw
        clear hSw
        go_simp
        with_reducible rfl
      try simp only [List.getElem_toArray, List.getElem_cons_succ, List.getElem_cons_zero, Act.put, List.setIfInBounds_toArray, List.set_cons_zero, List.set_cons_succ]
      refine wpAnyH_take (i := 1) (oi := _) (v := ?_) rfl (by kernel_rfl) (by kernel_rfl) (by kernel_rfl) (fun _ _ _ h => h) (Or.inl ⟨by kernel_rfl, ?_⟩) (by assumption) ?_
      rotate_left
      · intro w hSw
        clear hSw
        go_simp
        with_reducible rfl
      try simp only [List.getElem_toArray, List.getElem_cons_succ, List.getElem_cons_zero, Act.put, List.setIfInBounds_toArray, List.set_cons_zero, List.set_cons_succ]
      refine wpAnyH_take (i := 2) (oi := _) (v := ?_) rfl (by kernel_rfl) (by kernel_rfl) (by kernel_rfl) (fun _ _ _ h => h) (Or.inl ⟨by kernel_rfl, ?_⟩) (by assumption) ?_
      rotate_left
      · intro w hSw
        clear hSw
        go_simp
        with_reducible rfl
      try simp only [List.getElem_toArray, List.getElem_cons_succ, List.getElem_cons_zero, Act.put, List.setIfInBounds_toArray, List.set_cons_zero, List.set_cons_succ]
      refine wpAnyH_take (i := 3) (oi := _) (v := ?_) rfl (by kernel_rfl) (by kernel_rfl) (by kernel_rfl) (fun _ _ _ h => h) (Or.inl ⟨by kernel_rfl, ?_⟩) (by assumption) ?_
      rotate_left
      · intro w hSw
        clear hSw
        go_simp
        with_reducible rfl
      try simp only [List.getElem_toArray, List.getElem_cons_succ, List.getElem_cons_zero, Act.put, List.setIfInBounds_toArray, List.set_cons_zero, List.set_cons_succ]
      refine wpAnyH_take (i := 4) (oi := _) (v := ?_) rfl (by kernel_rfl) (by kernel_rfl) (by kernel_rfl) (fun _ _ _ h => h) (Or.inl ⟨by kernel_rfl, ?_⟩) (by assumption) ?_
      rotate_left
      · intro w hSw
        clear hSw
        go_simp
        with_reducible rfl
      try simp only [List.getElem_toArray, List.getElem_cons_succ, List.getElem_cons_zero, Act.put, List.setIfInBounds_toArray, List.set_cons_zero, List.set_cons_succ]
      refine wpAnyH_take (i := 5) (oi := _) (v := ?_) rfl (by kernel_rfl) (by kernel_rfl) (by kernel_rfl) (fun _ _ _ h => h) (Or.inl ⟨by kernel_rfl, ?_⟩) (by assumption) ?_
      rotate_left
      · intro w hSw
        obtain ⟨_, l0, l1, l2, l3, l4, l5, l6⟩ := hSw
        go_simp
        with_reducible rfl
      try simp only [List.getElem_toArray, List.getElem_cons_succ, List.getElem_cons_zero, Act.put, List.setIfInBounds_toArray, List.set_cons_zero, List.set_cons_succ]
      refine wpAnyH_take (i := 6) (oi := _) (v := ?_) rfl (by kernel_rfl) (by kernel_rfl) (by kernel_rfl) (fun _ _ _ h => h) (Or.inl ⟨by kernel_rfl, ?_⟩) (by assumption) ?_
      rotate_left
      · intro w hSw
        clear hSw
        go_simp
        with_reducible rfl
      try simp only [List.getElem_toArray, List.getElem_cons_succ, List.getElem_cons_zero, Act.put, List.setIfInBounds_toArray, List.set_cons_zero, List.set_cons_succ]
      refine wpAnyH_take (i := 7) (oi := _) (v := ?_) rfl (by kernel_rfl) (by kernel_rfl) (by kernel_rfl) (fun _ _ _ h => h) (Or.inl ⟨by kernel_rfl, ?_⟩) (by assumption) ?_
      rotate_left
      · intro w hSw
        clear hSw
        go_simp
        with_reducible rfl
      try simp only [List.getElem_toArray, List.getElem_cons_succ, List.getElem_cons_zero, Act.put, List.setIfInBounds_toArray, List.set_cons_zero, List.set_cons_succ]
      refine wpAnyH_take (i := 8) (oi := _) (v := ?_) rfl (by kernel_rfl) (by kernel_rfl) (by kernel_rfl) (fun _ _ _ h => h) (Or.inl ⟨by kernel_rfl, ?_⟩) (by assumption) ?_
      rotate_left
      · intro w hSw
        clear hSw
        go_simp
        with_reducible rfl
      try simp only [List.getElem_toArray, List.getElem_cons_succ, List.getElem_cons_zero, Act.put, List.setIfInBounds_toArray, List.set_cons_zero, List.set_cons_succ]
      refine wpAnyH_take (i := 9) (oi := _) (v := ?_) rfl (by kernel_rfl) (by kernel_rfl) (by kernel_rfl) (fun _ _ _ h => h) (Or.inl ⟨by kernel_rfl, ?_⟩) (by assumption) ?_
      rotate_left
      · intro w hSw
        clear hSw
        go_simp
        with_reducible rfl
      try simp only [List.getElem_toArray, List.getElem_cons_succ, List.getElem_cons_zero, Act.put, List.setIfInBounds_toArray, List.set_cons_zero, List.set_cons_succ]
      refine wpAnyH_take (i := 10) (oi := _) (v := ?_) rfl (by kernel_rfl) (by kernel_rfl) (by kernel_rfl) (fun _ _ _ h => h) (Or.inl ⟨by kernel_rfl, ?_⟩) (by assumption) ?_
      rotate_left
      · intro w hSw
        obtain ⟨_, l0, l1, l2, l3, l4, l5, l6⟩ := hSw
        go_simp
        with_reducible rfl
      try simp only [List.getElem_toArray, List.getElem_cons_succ, List.getElem_cons_zero, Act.put, List.setIfInBounds_toArray, List.set_cons_zero, List.set_cons_succ]
      refine wpAnyH_ready (rs := [11, 15]) (by kernel_rfl) (by simp) ?_
      refine AllReadyH.cons (o := _) rfl (fun K_ hK => ?_) (AllReadyH.cons (o := _) rfl (fun K_ hK => ?_) AllReadyH.nil)
      · go_simp
        refine (kof.out _ x0).mono ?_; rintro e u1' ⟨rfl, bb⟩
        have x0' := x0.trans (bb.mono x0.size)
        show K_ _ _
        refine hK.out _ _ (hHeld.on bb) (fun hH1 => ?_)
        clear hK K_ hHeld
        have hHeld := hH1
        clear hH1
        try simp only [List.getElem_toArray, List.getElem_cons_succ, List.getElem_cons_zero, Act.put, List.setIfInBounds_toArray, List.set_cons_zero, List.set_cons_succ]
        clear bb
        refine wpAnyH_take (i := 12) (oi := _) (v := ?_) rfl (by kernel_rfl) (by kernel_rfl) (by kernel_rfl) (fun _ _ _ h => h) (Or.inl ⟨by kernel_rfl, ?_⟩) (by assumption) ?_
        rotate_left
        · intro w hSw
          clear hSw
          go_simp
          with_reducible rfl
        try simp only [List.getElem_toArray, List.getElem_cons_succ, List.getElem_cons_zero, Act.put, List.setIfInBounds_toArray, List.set_cons_zero, List.set_cons_succ]
        refine wpAnyH_take (i := 13) (oi := _) (v := ?_) rfl (by kernel_rfl) (by kernel_rfl) (by kernel_rfl) (fun _ _ _ h => h) (Or.inl ⟨by kernel_rfl, ?_⟩) (by assumption) ?_
        rotate_left
        · intro w hSw
          clear hSw
          go_simp
          with_reducible rfl
        try simp only [List.getElem_toArray, List.getElem_cons_succ, List.getElem_cons_zero, Act.put, List.setIfInBounds_toArray, List.set_cons_zero, List.set_cons_succ]
        refine wpAnyH_take (i := 14) (oi := _) (v := ?_) rfl (by kernel_rfl) (by kernel_rfl) (by kernel_rfl) (fun _ _ _ h => h) (Or.inl ⟨by kernel_rfl, ?_⟩) (by assumption) ?_
        rotate_left
        · intro w hSw
          clear hSw
          go_simp
          with_reducible rfl
        try simp only [List.getElem_toArray, List.getElem_cons_succ, List.getElem_cons_zero, Act.put, List.setIfInBounds_toArray, List.set_cons_zero, List.set_cons_succ]
        refine wpAnyH_ready (rs := [15]) (by kernel_rfl) (by simp) ?_
        refine AllReadyH.cons (o := _) rfl (fun K_ hK => ?_) AllReadyH.nil
        go_simp
        have bb : Below u1'.heap.size u1' (u1'.alloc (.cells #[.int .u8 0, .int .u32 0, .int .u16 0, .int .u32 0, .int .u16 0, .int .i64 0, .int .i64 0] 44)) := (Below.refl _ _).alloc (Nat.le_refl _) _
        have x0'' := x0'.trans (bb.mono x0'.size)
        have zz := RowB.none u1' 44
        refine hK.out _ _ (hHeld.on bb) (fun hH1 => ?_)
        clear hK K_ hHeld
        have hHeld := hH1
        clear hH1
        try simp only [List.getElem_toArray, List.getElem_cons_succ, List.getElem_cons_zero, Act.put, List.setIfInBounds_toArray, List.set_cons_zero, List.set_cons_succ]
        have gb : wr.heap.size ≤ u1'.heap.size := x0'.size
        generalize u1'.alloc (.cells #[.int .u8 0, .int .u32 0, .int .u16 0, .int .u32 0, .int .u16 0, .int .i64 0, .int .i64 0] 44) = u1'' at x0'' zz hHeld  ⊢
        generalize u1'.heap.size = be at zz gb  ⊢
        clear bb
        refine wpAnyH_ready (rs := [16]) (by kernel_rfl) (by simp) ?_
        refine AllReadyH.cons (o := _) rfl (fun K_ hK => ?_) AllReadyH.nil
        have HZ := Lib.hid zz
        obtain ⟨_, z0, z1, z2, z3, z4, z5, z6, zf⟩ := id zz
        simp only [Ro.zero] at z0 z1 z2 z3 z4 z5 z6
        clear zz
        go_simp
        refine row_ (r := r) HZ.out fun Y hY bY => ?_
        have xY := one_box x0'' bY gb x0''.size
        have gB : be ≠ b := by have := HBL.out; omega
        refine hK.out _ _ (hHeld.by bY (fun e => gB e.symm)) (fun hH1 => ?_)
        clear hK K_ hHeld
        have hHeld := hH1
        clear hH1
        try simp only [List.getElem_toArray, List.getElem_cons_succ, List.getElem_cons_zero, Act.put, List.setIfInBounds_toArray, List.set_cons_zero, List.set_cons_succ]
        refine wpAnyH_take (i := 17) (oi := _) (v := ?_) rfl (by kernel_rfl) (by kernel_rfl) (by kernel_rfl) (fun _ _ _ h => h) (Or.inl ⟨by kernel_rfl, ?_⟩) (by assumption) ?_
        rotate_left
        · intro w hSw
          clear hSw
          go_simp
          with_reducible rfl
        try simp only [List.getElem_toArray, List.getElem_cons_succ, List.getElem_cons_zero, Act.put, List.setIfInBounds_toArray, List.set_cons_zero, List.set_cons_succ]
        refine wpAnyH_done (by kernel_rfl) (NoPanic.normal ?_) _
        have RY := hHeld
        clear z0 z1 z2 z3 z4 z5 z6 zf HZ hHeld bY gb gB  
        have E := hY
        clear hY
        go_upto_region 10 with fail
        generalize Y = Y0 at E RY xY ⊢
        refine wp_region_noPanic ?_
        refine wp_region_held_drew (S := (fun w' => RoAt w' b (off + i * 7) r)) (by kernel_rfl) ?_ (fun hHeld => ?_)
        · exact RY.on (Below.refl _ _).drew
        have x0 := xY.drew
        have E_ := E.on (w' := Y0.drew) (Below.refl _ _).drew
        generalize Y0.drew = u1 at hHeld x0 E_ ⊢
        clear RY xY E
        refine wpAnyH_take (i := 0) (oi := _) (v := ?_) rfl (by kernel_rfl) (by kernel_rfl) (by kernel_rfl) (fun _ _ _ h => h) (Or.inl ⟨by kernel_rfl, ?_⟩) (by assumption) ?_
        rotate_left
        · intro w hSw
          clear hSw
          go_simp
          with_reducible rfl
        try simp only [List.getElem_toArray, List.getElem_cons_succ, List.getElem_cons_zero, Act.put, List.setIfInBounds_toArray, List.set_cons_zero, List.set_cons_succ]
        refine wpAnyH_take (i := 1) (oi := _) (v := ?_) rfl (by kernel_rfl) (by kernel_rfl) (by kernel_rfl) (fun _ _ _ h => h) (Or.inl ⟨by kernel_rfl, ?_⟩) (by assumption) ?_
        rotate_left
        · intro w hSw
          clear hSw
          go_simp
          with_reducible rfl
        try simp only [List.getElem_toArray, List.getElem_cons_succ, List.getElem_cons_zero, Act.put, List.setIfInBounds_toArray, List.set_cons_zero, List.set_cons_succ]
        refine wpAnyH_take (i := 2) (oi := _) (v := ?_) rfl (by kernel_rfl) (by kernel_rfl) (by kernel_rfl) (fun _ _ _ h => h) (Or.inl ⟨by kernel_rfl, ?_⟩) (by assumption) ?_
        rotate_left
        · intro w hSw
          clear hSw
          go_simp
          with_reducible rfl
        try simp only [List.getElem_toArray, List.getElem_cons_succ, List.getElem_cons_zero, Act.put, List.setIfInBounds_toArray, List.set_cons_zero, List.set_cons_succ]
        refine wpAnyH_take (i := 3) (oi := _) (v := ?_) rfl (by kernel_rfl) (by kernel_rfl) (by kernel_rfl) (fun _ _ _ h => h) (Or.inl ⟨by kernel_rfl, ?_⟩) (by assumption) ?_
        rotate_left
        · intro w hSw
          clear hSw
          go_simp
          with_reducible rfl
        try simp only [List.getElem_toArray, List.getElem_cons_succ, List.getElem_cons_zero, Act.put, List.setIfInBounds_toArray, List.set_cons_zero, List.set_cons_succ]
        refine wpAnyH_take (i := 4) (oi := _) (v := ?_) rfl (by kernel_rfl) (by kernel_rfl) (by kernel_rfl) (fun _ _ _ h => h) (Or.inl ⟨by kernel_rfl, ?_⟩) (by assumption) ?_
        rotate_left
        · intro w hSw
          clear hSw
          go_simp
          with_reducible rfl
        try simp only [List.getElem_toArray, List.getElem_cons_succ, List.getElem_cons_zero, Act.put, List.setIfInBounds_toArray, List.set_cons_zero, List.set_cons_succ]
        refine wpAnyH_take (i := 5) (oi := _) (v := ?_) rfl (by kernel_rfl) (by kernel_rfl) (by kernel_rfl) (fun _ _ _ h => h) (Or.inl ⟨by kernel_rfl, ?_⟩) (by assumption) ?_
        rotate_left
        · intro w hSw
          obtain ⟨_, l0, l1, l2, l3, l4, l5, l6⟩ := hSw
          go_simp
          with_reducible rfl
        try simp only [List.getElem_toArray, List.getElem_cons_succ, List.getElem_cons_zero, Act.put, List.setIfInBounds_toArray, List.set_cons_zero, List.set_cons_succ]
        refine wpAnyH_take (i := 6) (oi := _) (v := ?_) rfl (by kernel_rfl) (by kernel_rfl) (by kernel_rfl) (fun _ _ _ h => h) (Or.inl ⟨by kernel_rfl, ?_⟩) (by assumption) ?_
        rotate_left
        · intro w hSw
          clear hSw
          go_simp
          with_reducible rfl
        try simp only [List.getElem_toArray, List.getElem_cons_succ, List.getElem_cons_zero, Act.put, List.setIfInBounds_toArray, List.set_cons_zero, List.set_cons_succ]
        refine wpAnyH_take (i := 7) (oi := _) (v := ?_) rfl (by kernel_rfl) (by kernel_rfl) (by kernel_rfl) (fun _ _ _ h => h) (Or.inl ⟨by kernel_rfl, ?_⟩) (by assumption) ?_
        rotate_left
        · intro w hSw
          clear hSw
          go_simp
          with_reducible rfl
        try simp only [List.getElem_toArray, List.getElem_cons_succ, List.getElem_cons_zero, Act.put, List.setIfInBounds_toArray, List.set_cons_zero, List.set_cons_succ]
        refine wpAnyH_take (i := 8) (oi := _) (v := ?_) rfl (by kernel_rfl) (by kernel_rfl) (by kernel_rfl) (fun _ _ _ h => h) (Or.inl ⟨by kernel_rfl, ?_⟩) (by assumption) ?_
        rotate_left
        · intro w hSw
          clear hSw
          go_simp
          with_reducible rfl
        try simp only [List.getElem_toArray, List.getElem_cons_succ, List.getElem_cons_zero, Act.put, List.setIfInBounds_toArray, List.set_cons_zero, List.set_cons_succ]
        refine wpAnyH_take (i := 9) (oi := _) (v := ?_) rfl (by kernel_rfl) (by kernel_rfl) (by kernel_rfl) (fun _ _ _ h => h) (Or.inl ⟨by kernel_rfl, ?_⟩) (by assumption) ?_
        rotate_left
        · intro w hSw
          clear hSw
          go_simp
          with_reducible rfl
        try simp only [List.getElem_toArray, List.getElem_cons_succ, List.getElem_cons_zero, Act.put, List.setIfInBounds_toArray, List.set_cons_zero, List.set_cons_succ]
        refine wpAnyH_take (i := 10) (oi := _) (v := ?_) rfl (by kernel_rfl) (by kernel_rfl) (by kernel_rfl) (fun _ _ _ h => h) (Or.inl ⟨by kernel_rfl, ?_⟩) (by assumption) ?_
        rotate_left
        · intro w hSw
          obtain ⟨_, l0, l1, l2, l3, l4, l5, l6⟩ := hSw
          go_simp
          with_reducible rfl
        try simp only [List.getElem_toArray, List.getElem_cons_succ, List.getElem_cons_zero, Act.put, List.setIfInBounds_toArray, List.set_cons_zero, List.set_cons_succ]
        refine wpAnyH_ready (rs := [11, 15]) (by kernel_rfl) (by simp) ?_
        refine AllReadyH.cons (o := _) rfl (fun K_ hK => ?_) (AllReadyH.cons (o := _) rfl (fun K_ hK => ?_) AllReadyH.nil)
        · go_simp
          refine (kow.out _ x0).mono ?_; rintro e u1' ⟨rfl, bb⟩
          have x0' := x0.trans (bb.mono x0.size)
          have E_9 := E_.on bb
          clear E_
          have E_ := E_9
          clear E_9
          show K_ _ _
          refine hK.out _ _ (hHeld.on bb) (fun hH1 => ?_)
          clear hK K_ hHeld
          have hHeld := hH1
          clear hH1
          try simp only [List.getElem_toArray, List.getElem_cons_succ, List.getElem_cons_zero, Act.put, List.setIfInBounds_toArray, List.set_cons_zero, List.set_cons_succ]
          clear bb
          refine wpAnyH_take (i := 12) (oi := _) (v := ?_) rfl (by kernel_rfl) (by kernel_rfl) (by kernel_rfl) (fun _ _ _ h => h) (Or.inl ⟨by kernel_rfl, ?_⟩) (by assumption) ?_
          rotate_left
          · intro w hSw
            clear hSw
            go_simp
            with_reducible rfl
          try simp only [List.getElem_toArray, List.getElem_cons_succ, List.getElem_cons_zero, Act.put, List.setIfInBounds_toArray, List.set_cons_zero, List.set_cons_succ]
          refine wpAnyH_take (i := 13) (oi := _) (v := ?_) rfl (by kernel_rfl) (by kernel_rfl) (by kernel_rfl) (fun _ _ _ h => h) (Or.inl ⟨by kernel_rfl, ?_⟩) (by assumption) ?_
          rotate_left
          · intro w hSw
            clear hSw
            go_simp
            with_reducible rfl
          try simp only [List.getElem_toArray, List.getElem_cons_succ, List.getElem_cons_zero, Act.put, List.setIfInBounds_toArray, List.set_cons_zero, List.set_cons_succ]
          refine wpAnyH_take (i := 14) (oi := _) (v := ?_) rfl (by kernel_rfl) (by kernel_rfl) (by kernel_rfl) (fun _ _ _ h => h) (Or.inl ⟨by kernel_rfl, ?_⟩) (by assumption) ?_
          rotate_left
          · intro w hSw
            clear hSw
            go_simp
            with_reducible rfl
          try simp only [List.getElem_toArray, List.getElem_cons_succ, List.getElem_cons_zero, Act.put, List.setIfInBounds_toArray, List.set_cons_zero, List.set_cons_succ]
          refine wpAnyH_ready (rs := [15]) (by kernel_rfl) (by simp) ?_
          refine AllReadyH.cons (o := _) rfl (fun K_ hK => ?_) AllReadyH.nil
          go_simp
          have bb : Below u1'.heap.size u1' (u1'.alloc (.cells #[.int .u8 0, .int .u32 0, .int .u16 0, .int .u32 0, .int .u16 0, .int .i64 0, .int .i64 0] 44)) := (Below.refl _ _).alloc (Nat.le_refl _) _
          have x0'' := x0'.trans (bb.mono x0'.size)
          have zz := RowB.none u1' 44
          have nlE : be < u1'.heap.size := E_.lt
          have E_9 := E_.on bb
          clear E_
          have E_ := E_9
          clear E_9
          refine hK.out _ _ (hHeld.on bb) (fun hH1 => ?_)
          clear hK K_ hHeld
          have hHeld := hH1
          clear hH1
          try simp only [List.getElem_toArray, List.getElem_cons_succ, List.getElem_cons_zero, Act.put, List.setIfInBounds_toArray, List.set_cons_zero, List.set_cons_succ]
          have gb : wr.heap.size ≤ u1'.heap.size := x0'.size
          generalize u1'.alloc (.cells #[.int .u8 0, .int .u32 0, .int .u16 0, .int .u32 0, .int .u16 0, .int .i64 0, .int .i64 0] 44) = u1'' at x0'' zz hHeld E_ ⊢
          generalize u1'.heap.size = bf at zz gb nlE ⊢
          clear bb
          refine wpAnyH_ready (rs := [16]) (by kernel_rfl) (by simp) ?_
          refine AllReadyH.cons (o := _) rfl (fun K_ hK => ?_) AllReadyH.nil
          have HZ := Lib.hid zz
          obtain ⟨_, z0, z1, z2, z3, z4, z5, z6, zf⟩ := id zz
          simp only [Ro.zero] at z0 z1 z2 z3 z4 z5 z6
          clear zz
          go_simp
          refine row_ (r := r) HZ.out fun Y hY bY => ?_
          have xY := one_box x0'' bY gb x0''.size
          have gB : bf ≠ b := by have := HBL.out; omega
          have EY := E_.by bY (fun e => by omega)
          refine hK.out _ _ (hHeld.by bY (fun e => gB e.symm)) (fun hH1 => ?_)
          clear hK K_ hHeld
          have hHeld := hH1
          clear hH1
          try simp only [List.getElem_toArray, List.getElem_cons_succ, List.getElem_cons_zero, Act.put, List.setIfInBounds_toArray, List.set_cons_zero, List.set_cons_succ]
          refine wpAnyH_take (i := 17) (oi := _) (v := ?_) rfl (by kernel_rfl) (by kernel_rfl) (by kernel_rfl) (fun _ _ _ h => h) (Or.inl ⟨by kernel_rfl, ?_⟩) (by assumption) ?_
          rotate_left
          · intro w hSw
            clear hSw
            go_simp
            with_reducible rfl
          try simp only [List.getElem_toArray, List.getElem_cons_succ, List.getElem_cons_zero, Act.put, List.setIfInBounds_toArray, List.set_cons_zero, List.set_cons_succ]
          refine wpAnyH_done (by kernel_rfl) (NoPanic.normal ?_) _
          have RY := hHeld
          clear z0 z1 z2 z3 z4 z5 z6 zf HZ hHeld bY gb gB E_ nlE
          obtain ⟨_, e0, e1, e2, e3, e4, e5, e6, _⟩ := id EY
          obtain ⟨_, g0, g1, g2, g3, g4, g5, g6, _⟩ := id hY
          obtain ⟨_, l0, l1, l2, l3, l4, l5, l6⟩ := id RY
          have xE := Lib.hid (HB.out.trans (xY.mono HB.out.size))
          clear EY hY RY xY
          go_upto_region 11 with fail
          go_region
          go_wp2
          go_roundw
          case rel => exact ⟨i + 1, HI.out, by simp [EW.out], Lib.hid xE.out.drew⟩
          case measure => first | exact step_meas16 EW.out (step_less16 HI.out) | (simp [EW.out]; exact step_less16 HI.out) | exact step_less16 HI.out
        · go_simp
          have bb : Below u1.heap.size u1 (u1.alloc (.cells #[.int .u8 0, .int .u32 0, .int .u16 0, .int .u32 0, .int .u16 0, .int .i64 0, .int .i64 0] 44)) := (Below.refl _ _).alloc (Nat.le_refl _) _
          have x0' := x0.trans (bb.mono x0.size)
          have zz := RowB.none u1 44
          have nlE : be < u1.heap.size := E_.lt
          have E_9 := E_.on bb
          clear E_
          have E_ := E_9
          clear E_9
          refine hK.out _ _ (hHeld.on bb) (fun hH1 => ?_)
          clear hK K_ hHeld
          have hHeld := hH1
          clear hH1
          try simp only [List.getElem_toArray, List.getElem_cons_succ, List.getElem_cons_zero, Act.put, List.setIfInBounds_toArray, List.set_cons_zero, List.set_cons_succ]
          have gb : wr.heap.size ≤ u1.heap.size := x0.size
          generalize u1.alloc (.cells #[.int .u8 0, .int .u32 0, .int .u16 0, .int .u32 0, .int .u16 0, .int .i64 0, .int .i64 0] 44) = u1' at x0' zz hHeld E_ ⊢
          generalize u1.heap.size = bf at zz gb nlE ⊢
          clear bb
          refine wpAnyH_ready (rs := [11]) (by kernel_rfl) (by simp) ?_
          refine AllReadyH.cons (o := _) rfl (fun K_ hK => ?_) AllReadyH.nil
          go_simp
          refine (kow.out _ x0').mono ?_; rintro e u1'' ⟨rfl, bb⟩
          have x0'' := x0'.trans (bb.mono x0'.size)
          have E_9 := E_.on bb
          clear E_
          have E_ := E_9
          clear E_9
          have zz9 := zz.on bb
          clear zz
          have zz := zz9
          clear zz9
          show K_ _ _
          refine hK.out _ _ (hHeld.on bb) (fun hH1 => ?_)
          clear hK K_ hHeld
          have hHeld := hH1
          clear hH1
          try simp only [List.getElem_toArray, List.getElem_cons_succ, List.getElem_cons_zero, Act.put, List.setIfInBounds_toArray, List.set_cons_zero, List.set_cons_succ]
          clear bb
          refine wpAnyH_take (i := 12) (oi := _) (v := ?_) rfl (by kernel_rfl) (by kernel_rfl) (by kernel_rfl) (fun _ _ _ h => h) (Or.inl ⟨by kernel_rfl, ?_⟩) (by assumption) ?_
          rotate_left
          · intro w hSw
            clear hSw
            go_simp
            with_reducible rfl
          try simp only [List.getElem_toArray, List.getElem_cons_succ, List.getElem_cons_zero, Act.put, List.setIfInBounds_toArray, List.set_cons_zero, List.set_cons_succ]
          refine wpAnyH_take (i := 13) (oi := _) (v := ?_) rfl (by kernel_rfl) (by kernel_rfl) (by kernel_rfl) (fun _ _ _ h => h) (Or.inl ⟨by kernel_rfl, ?_⟩) (by assumption) ?_
          rotate_left
          · intro w hSw
            clear hSw
            go_simp
            with_reducible rfl
          try simp only [List.getElem_toArray, List.getElem_cons_succ, List.getElem_cons_zero, Act.put, List.setIfInBounds_toArray, List.set_cons_zero, List.set_cons_succ]
          refine wpAnyH_take (i := 14) (oi := _) (v := ?_) rfl (by kernel_rfl) (by kernel_rfl) (by kernel_rfl) (fun _ _ _ h => h) (Or.inl ⟨by kernel_rfl, ?_⟩) (by assumption) ?_
          rotate_left
          · intro w hSw
            clear hSw
            go_simp
            with_reducible rfl
          try simp only [List.getElem_toArray, List.getElem_cons_succ, List.getElem_cons_zero, Act.put, List.setIfInBounds_toArray, List.set_cons_zero, List.set_cons_succ]
          refine wpAnyH_ready (rs := [16]) (by kernel_rfl) (by simp) ?_
          refine AllReadyH.cons (o := _) rfl (fun K_ hK => ?_) AllReadyH.nil
          have HZ := Lib.hid zz
          obtain ⟨_, z0, z1, z2, z3, z4, z5, z6, zf⟩ := id zz
          simp only [Ro.zero] at z0 z1 z2 z3 z4 z5 z6
          clear zz
          go_simp
          refine row_ (r := r) HZ.out fun Y hY bY => ?_
          have xY := one_box x0'' bY gb x0''.size
          have gB : bf ≠ b := by have := HBL.out; omega
          have EY := E_.by bY (fun e => by omega)
          refine hK.out _ _ (hHeld.by bY (fun e => gB e.symm)) (fun hH1 => ?_)
          clear hK K_ hHeld
          have hHeld := hH1
          clear hH1
          try simp only [List.getElem_toArray, List.getElem_cons_succ, List.getElem_cons_zero, Act.put, List.setIfInBounds_toArray, List.set_cons_zero, List.set_cons_succ]
          refine wpAnyH_take (i := 17) (oi := _) (v := ?_) rfl (by kernel_rfl) (by kernel_rfl) (by kernel_rfl) (fun _ _ _ h => h) (Or.inl ⟨by kernel_rfl, ?_⟩) (by assumption) ?_
          rotate_left
          · intro w hSw
            clear hSw
            go_simp
            with_reducible rfl
          try simp only [List.getElem_toArray, List.getElem_cons_succ, List.getElem_cons_zero, Act.put, List.setIfInBounds_toArray, List.set_cons_zero, List.set_cons_succ]
          refine wpAnyH_done (by kernel_rfl) (NoPanic.normal ?_) _
          have RY := hHeld
          clear z0 z1 z2 z3 z4 z5 z6 zf HZ hHeld bY gb gB E_ nlE
          obtain ⟨_, e0, e1, e2, e3, e4, e5, e6, _⟩ := id EY
          obtain ⟨_, g0, g1, g2, g3, g4, g5, g6, _⟩ := id hY
          obtain ⟨_, l0, l1, l2, l3, l4, l5, l6⟩ := id RY
          have xE := Lib.hid (HB.out.trans (xY.mono HB.out.size))
          clear EY hY RY xY
          go_upto_region 11 with fail
          go_region
          go_wp2
          go_roundw
          case rel => exact ⟨i + 1, HI.out, by simp [EW.out], Lib.hid xE.out.drew⟩
          case measure => first | exact step_meas16 EW.out (step_less16 HI.out) | (simp [EW.out]; exact step_less16 HI.out) | exact step_less16 HI.out
      · go_simp
        have bb : Below u1.heap.size u1 (u1.alloc (.cells #[.int .u8 0, .int .u32 0, .int .u16 0, .int .u32 0, .int .u16 0, .int .i64 0, .int .i64 0] 44)) := (Below.refl _ _).alloc (Nat.le_refl _) _
        have x0' := x0.trans (bb.mono x0.size)
        have zz := RowB.none u1 44
        refine hK.out _ _ (hHeld.on bb) (fun hH1 => ?_)
        clear hK K_ hHeld
        have hHeld := hH1
        clear hH1
        try simp only [List.getElem_toArray, List.getElem_cons_succ, List.getElem_cons_zero, Act.put, List.setIfInBounds_toArray, List.set_cons_zero, List.set_cons_succ]
        have gb : wr.heap.size ≤ u1.heap.size := x0.size
        generalize u1.alloc (.cells #[.int .u8 0, .int .u32 0, .int .u16 0, .int .u32 0, .int .u16 0, .int .i64 0, .int .i64 0] 44) = u1' at x0' zz hHeld  ⊢
        generalize u1.heap.size = be at zz gb  ⊢
        clear bb
        refine wpAnyH_ready (rs := [11]) (by kernel_rfl) (by simp) ?_
        refine AllReadyH.cons (o := _) rfl (fun K_ hK => ?_) AllReadyH.nil
        go_simp
        refine (kof.out _ x0').mono ?_; rintro e u1'' ⟨rfl, bb⟩
        have x0'' := x0'.trans (bb.mono x0'.size)
        have zz9 := zz.on bb
        clear zz
        have zz := zz9
        clear zz9
        show K_ _ _
        refine hK.out _ _ (hHeld.on bb) (fun hH1 => ?_)
        clear hK K_ hHeld
        have hHeld := hH1
        clear hH1
        try simp only [List.getElem_toArray, List.getElem_cons_succ, List.getElem_cons_zero, Act.put, List.setIfInBounds_toArray, List.set_cons_zero, List.set_cons_succ]
        clear bb
        refine wpAnyH_take (i := 12) (oi := _) (v := ?_) rfl (by kernel_rfl) (by kernel_rfl) (by kernel_rfl) (fun _ _ _ h => h) (Or.inl ⟨by kernel_rfl, ?_⟩) (by assumption) ?_
        rotate_left
        · intro w hSw
          clear hSw
          go_simp
          with_reducible rfl
        try simp only [List.getElem_toArray, List.getElem_cons_succ, List.getElem_cons_zero, Act.put, List.setIfInBounds_toArray, List.set_cons_zero, List.set_cons_succ]
        refine wpAnyH_take (i := 13) (oi := _) (v := ?_) rfl (by kernel_rfl) (by kernel_rfl) (by kernel_rfl) (fun _ _ _ h => h) (Or.inl ⟨by kernel_rfl, ?_⟩) (by assumption) ?_
        rotate_left
        · intro w hSw
          clear hSw
          go_simp
          with_reducible rfl
        try simp only [List.getElem_toArray, List.getElem_cons_succ, List.getElem_cons_zero, Act.put, List.setIfInBounds_toArray, List.set_cons_zero, List.set_cons_succ]
        refine wpAnyH_take (i := 14) (oi := _) (v := ?_) rfl (by kernel_rfl) (by kernel_rfl) (by kernel_rfl) (fun _ _ _ h => h) (Or.inl ⟨by kernel_rfl, ?_⟩) (by assumption) ?_
        rotate_left
        · intro w hSw
          clear hSw
          go_simp
          with_reducible rfl
        try simp only [List.getElem_toArray, List.getElem_cons_succ, List.getElem_cons_zero, Act.put, List.setIfInBounds_toArray, List.set_cons_zero, List.set_cons_succ]
        refine wpAnyH_ready (rs := [16]) (by kernel_rfl) (by simp) ?_
        refine AllReadyH.cons (o := _) rfl (fun K_ hK => ?_) AllReadyH.nil
        have HZ := Lib.hid zz
        obtain ⟨_, z0, z1, z2, z3, z4, z5, z6, zf⟩ := id zz
        simp only [Ro.zero] at z0 z1 z2 z3 z4 z5 z6
        clear zz
        go_simp
        refine row_ (r := r) HZ.out fun Y hY bY => ?_
        have xY := one_box x0'' bY gb x0''.size
        have gB : be ≠ b := by have := HBL.out; omega
        refine hK.out _ _ (hHeld.by bY (fun e => gB e.symm)) (fun hH1 => ?_)
        clear hK K_ hHeld
        have hHeld := hH1
        clear hH1
        try simp only [List.getElem_toArray, List.getElem_cons_succ, List.getElem_cons_zero, Act.put, List.setIfInBounds_toArray, List.set_cons_zero, List.set_cons_succ]
        refine wpAnyH_take (i := 17) (oi := _) (v := ?_) rfl (by kernel_rfl) (by kernel_rfl) (by kernel_rfl) (fun _ _ _ h => h) (Or.inl ⟨by kernel_rfl, ?_⟩) (by assumption) ?_
        rotate_left
        · intro w hSw
          clear hSw
          go_simp
          with_reducible rfl
        try simp only [List.getElem_toArray, List.getElem_cons_succ, List.getElem_cons_zero, Act.put, List.setIfInBounds_toArray, List.set_cons_zero, List.set_cons_succ]
        refine wpAnyH_done (by kernel_rfl) (NoPanic.normal ?_) _
        have RY := hHeld
        clear z0 z1 z2 z3 z4 z5 z6 zf HZ hHeld bY gb gB  
        have E := hY
        clear hY
        go_upto_region 10 with fail
        generalize Y = Y0 at E RY xY ⊢
        refine wp_region_noPanic ?_
        refine wp_region_held_drew (S := (fun w' => RoAt w' b (off + i * 7) r)) (by kernel_rfl) ?_ (fun hHeld => ?_)
        · exact RY.on (Below.refl _ _).drew
        have x0 := xY.drew
        have E_ := E.on (w' := Y0.drew) (Below.refl _ _).drew
        generalize Y0.drew = u1 at hHeld x0 E_ ⊢
        clear RY xY E
        refine wpAnyH_take (i := 0) (oi := _) (v := ?_) rfl (by kernel_rfl) (by kernel_rfl) (by kernel_rfl) (fun _ _ _ h => h) (Or.inl ⟨by kernel_rfl, ?_⟩) (by assumption) ?_
        rotate_left
        · intro w hSw
          clear hSw
          go_simp
          with_reducible rfl
        try simp only [List.getElem_toArray, List.getElem_cons_succ, List.getElem_cons_zero, Act.put, List.setIfInBounds_toArray, List.set_cons_zero, List.set_cons_succ]
        refine wpAnyH_take (i := 1) (oi := _) (v := ?_) rfl (by kernel_rfl) (by kernel_rfl) (by kernel_rfl) (fun _ _ _ h => h) (Or.inl ⟨by kernel_rfl, ?_⟩) (by assumption) ?_
        rotate_left
        · intro w hSw
          clear hSw
          go_simp
          with_reducible rfl
        try simp only [List.getElem_toArray, List.getElem_cons_succ, List.getElem_cons_zero, Act.put, List.setIfInBounds_toArray, List.set_cons_zero, List.set_cons_succ]
        refine wpAnyH_take (i := 2) (oi := _) (v := ?_) rfl (by kernel_rfl) (by kernel_rfl) (by kernel_rfl) (fun _ _ _ h => h) (Or.inl ⟨by kernel_rfl, ?_⟩) (by assumption) ?_
        rotate_left
        · intro w hSw
          clear hSw
          go_simp
          with_reducible rfl
        try simp only [List.getElem_toArray, List.getElem_cons_succ, List.getElem_cons_zero, Act.put, List.setIfInBounds_toArray, List.set_cons_zero, List.set_cons_succ]
        refine wpAnyH_take (i := 3) (oi := _) (v := ?_) rfl (by kernel_rfl) (by kernel_rfl) (by kernel_rfl) (fun _ _ _ h => h) (Or.inl ⟨by kernel_rfl, ?_⟩) (by assumption) ?_
        rotate_left
        · intro w hSw
          clear hSw
          go_simp
          with_reducible rfl
        try simp only [List.getElem_toArray, List.getElem_cons_succ, List.getElem_cons_zero, Act.put, List.setIfInBounds_toArray, List.set_cons_zero, List.set_cons_succ]
        refine wpAnyH_take (i := 4) (oi := _) (v := ?_) rfl (by kernel_rfl) (by kernel_rfl) (by kernel_rfl) (fun _ _ _ h => h) (Or.inl ⟨by kernel_rfl, ?_⟩) (by assumption) ?_
        rotate_left
        · intro w hSw
          clear hSw
          go_simp
          with_reducible rfl
        try simp only [List.getElem_toArray, List.getElem_cons_succ, List.getElem_cons_zero, Act.put, List.setIfInBounds_toArray, List.set_cons_zero, List.set_cons_succ]
        refine wpAnyH_take (i := 5) (oi := _) (v := ?_) rfl (by kernel_rfl) (by kernel_rfl) (by kernel_rfl) (fun _ _ _ h => h) (Or.inl ⟨by kernel_rfl, ?_⟩) (by assumption) ?_
        rotate_left
        · intro w hSw
          obtain ⟨_, l0, l1, l2, l3, l4, l5, l6⟩ := hSw
          go_simp
          with_reducible rfl
        try simp only [List.getElem_toArray, List.getElem_cons_succ, List.getElem_cons_zero, Act.put, List.setIfInBounds_toArray, List.set_cons_zero, List.set_cons_succ]
        refine wpAnyH_take (i := 6) (oi := _) (v := ?_) rfl (by kernel_rfl) (by kernel_rfl) (by kernel_rfl) (fun _ _ _ h => h) (Or.inl ⟨by kernel_rfl, ?_⟩) (by assumption) ?_
        rotate_left
        · intro w hSw
          clear hSw
          go_simp
          with_reducible rfl
        try simp only [List.getElem_toArray, List.getElem_cons_succ, List.getElem_cons_zero, Act.put, List.setIfInBounds_toArray, List.set_cons_zero, List.set_cons_succ]
        refine wpAnyH_take (i := 7) (oi := _) (v := ?_) rfl (by kernel_rfl) (by kernel_rfl) (by kernel_rfl) (fun _ _ _ h => h) (Or.inl ⟨by kernel_rfl, ?_⟩) (by assumption) ?_
        rotate_left
        · intro w hSw
          clear hSw
          go_simp
          with_reducible rfl
        try simp only [List.getElem_toArray, List.getElem_cons_succ, List.getElem_cons_zero, Act.put, List.setIfInBounds_toArray, List.set_cons_zero, List.set_cons_succ]
        refine wpAnyH_take (i := 8) (oi := _) (v := ?_) rfl (by kernel_rfl) (by kernel_rfl) (by kernel_rfl) (fun _ _ _ h => h) (Or.inl ⟨by kernel_rfl, ?_⟩) (by assumption) ?_
        rotate_left
        · intro w hSw
          clear hSw
          go_simp
          with_reducible rfl
        try simp only [List.getElem_toArray, List.getElem_cons_succ, List.getElem_cons_zero, Act.put, List.setIfInBounds_toArray, List.set_cons_zero, List.set_cons_succ]
        refine wpAnyH_take (i := 9) (oi := _) (v := ?_) rfl (by kernel_rfl) (by kernel_rfl) (by kernel_rfl) (fun _ _ _ h => h) (Or.inl ⟨by kernel_rfl, ?_⟩) (by assumption) ?_
        rotate_left
        · intro w hSw
          clear hSw
          go_simp
          with_reducible rfl
        try simp only [List.getElem_toArray, List.getElem_cons_succ, List.getElem_cons_zero, Act.put, List.setIfInBounds_toArray, List.set_cons_zero, List.set_cons_succ]
        refine wpAnyH_take (i := 10) (oi := _) (v := ?_) rfl (by kernel_rfl) (by kernel_rfl) (by kernel_rfl) (fun _ _ _ h => h) (Or.inl ⟨by kernel_rfl, ?_⟩) (by assumption) ?_
        rotate_left
        · intro w hSw
          obtain ⟨_, l0, l1, l2, l3, l4, l5, l6⟩ := hSw
          go_simp
          with_reducible rfl
        try simp only [List.getElem_toArray, List.getElem_cons_succ, List.getElem_cons_zero, Act.put, List.setIfInBounds_toArray, List.set_cons_zero, List.set_cons_succ]
        refine wpAnyH_ready (rs := [11, 15]) (by kernel_rfl) (by simp) ?_
        refine AllReadyH.cons (o := _) rfl (fun K_ hK => ?_) (AllReadyH.cons (o := _) rfl (fun K_ hK => ?_) AllReadyH.nil)
        · go_simp
          refine (kow.out _ x0).mono ?_; rintro e u1' ⟨rfl, bb⟩
          have x0' := x0.trans (bb.mono x0.size)
          have E_9 := E_.on bb
          clear E_
          have E_ := E_9
          clear E_9
          show K_ _ _
          refine hK.out _ _ (hHeld.on bb) (fun hH1 => ?_)
          clear hK K_ hHeld
          have hHeld := hH1
          clear hH1
          try simp only [List.getElem_toArray, List.getElem_cons_succ, List.getElem_cons_zero, Act.put, List.setIfInBounds_toArray, List.set_cons_zero, List.set_cons_succ]
          clear bb
          refine wpAnyH_take (i := 12) (oi := _) (v := ?_) rfl (by kernel_rfl) (by kernel_rfl) (by kernel_rfl) (fun _ _ _ h => h) (Or.inl ⟨by kernel_rfl, ?_⟩) (by assumption) ?_
          rotate_left
          · intro w hSw
            clear hSw
            go_simp
            with_reducible rfl
          try simp only [List.getElem_toArray, List.getElem_cons_succ, List.getElem_cons_zero, Act.put, List.setIfInBounds_toArray, List.set_cons_zero, List.set_cons_succ]
          refine wpAnyH_take (i := 13) (oi := _) (v := ?_) rfl (by kernel_rfl) (by kernel_rfl) (by kernel_rfl) (fun _ _ _ h => h) (Or.inl ⟨by kernel_rfl, ?_⟩) (by assumption) ?_
          rotate_left
          · intro w hSw
            clear hSw
            go_simp
            with_reducible rfl
          try simp only [List.getElem_toArray, List.getElem_cons_succ, List.getElem_cons_zero, Act.put, List.setIfInBounds_toArray, List.set_cons_zero, List.set_cons_succ]
          refine wpAnyH_take (i := 14) (oi := _) (v := ?_) rfl (by kernel_rfl) (by kernel_rfl) (by kernel_rfl) (fun _ _ _ h => h) (Or.inl ⟨by kernel_rfl, ?_⟩) (by assumption) ?_
          rotate_left
          · intro w hSw
            clear hSw
            go_simp
            with_reducible rfl
          try simp only [List.getElem_toArray, List.getElem_cons_succ, List.getElem_cons_zero, Act.put, List.setIfInBounds_toArray, List.set_cons_zero, List.set_cons_succ]
          refine wpAnyH_ready (rs := [15]) (by kernel_rfl) (by simp) ?_
          refine AllReadyH.cons (o := _) rfl (fun K_ hK => ?_) AllReadyH.nil
          go_simp
          have bb : Below u1'.heap.size u1' (u1'.alloc (.cells #[.int .u8 0, .int .u32 0, .int .u16 0, .int .u32 0, .int .u16 0, .int .i64 0, .int .i64 0] 44)) := (Below.refl _ _).alloc (Nat.le_refl _) _
          have x0'' := x0'.trans (bb.mono x0'.size)
          have zz := RowB.none u1' 44
          have nlE : be < u1'.heap.size := E_.lt
          have E_9 := E_.on bb
          clear E_
          have E_ := E_9
          clear E_9
          refine hK.out _ _ (hHeld.on bb) (fun hH1 => ?_)
          clear hK K_ hHeld
          have hHeld := hH1
          clear hH1
          try simp only [List.getElem_toArray, List.getElem_cons_succ, List.getElem_cons_zero, Act.put, List.setIfInBounds_toArray, List.set_cons_zero, List.set_cons_succ]
          have gb : wr.heap.size ≤ u1'.heap.size := x0'.size
          generalize u1'.alloc (.cells #[.int .u8 0, .int .u32 0, .int .u16 0, .int .u32 0, .int .u16 0, .int .i64 0, .int .i64 0] 44) = u1'' at x0'' zz hHeld E_ ⊢
          generalize u1'.heap.size = bf at zz gb nlE ⊢
          clear bb
          refine wpAnyH_ready (rs := [16]) (by kernel_rfl) (by simp) ?_
          refine AllReadyH.cons (o := _) rfl (fun K_ hK => ?_) AllReadyH.nil
          have HZ := Lib.hid zz
          obtain ⟨_, z0, z1, z2, z3, z4, z5, z6, zf⟩ := id zz
          simp only [Ro.zero] at z0 z1 z2 z3 z4 z5 z6
          clear zz
          go_simp
          refine row_ (r := r) HZ.out fun Y hY bY => ?_
          have xY := one_box x0'' bY gb x0''.size
          have gB : bf ≠ b := by have := HBL.out; omega
          have EY := E_.by bY (fun e => by omega)
          refine hK.out _ _ (hHeld.by bY (fun e => gB e.symm)) (fun hH1 => ?_)
          clear hK K_ hHeld
          have hHeld := hH1
          clear hH1
          try simp only [List.getElem_toArray, List.getElem_cons_succ, List.getElem_cons_zero, Act.put, List.setIfInBounds_toArray, List.set_cons_zero, List.set_cons_succ]
          refine wpAnyH_take (i := 17) (oi := _) (v := ?_) rfl (by kernel_rfl) (by kernel_rfl) (by kernel_rfl) (fun _ _ _ h => h) (Or.inl ⟨by kernel_rfl, ?_⟩) (by assumption) ?_
          rotate_left
          · intro w hSw
            clear hSw
            go_simp
            with_reducible rfl
          try simp only [List.getElem_toArray, List.getElem_cons_succ, List.getElem_cons_zero, Act.put, List.setIfInBounds_toArray, List.set_cons_zero, List.set_cons_succ]
          refine wpAnyH_done (by kernel_rfl) (NoPanic.normal ?_) _
          have RY := hHeld
          clear z0 z1 z2 z3 z4 z5 z6 zf HZ hHeld bY gb gB E_ nlE
          obtain ⟨_, e0, e1, e2, e3, e4, e5, e6, _⟩ := id EY
          obtain ⟨_, g0, g1, g2, g3, g4, g5, g6, _⟩ := id hY
          obtain ⟨_, l0, l1, l2, l3, l4, l5, l6⟩ := id RY
          have xE := Lib.hid (HB.out.trans (xY.mono HB.out.size))
          clear EY hY RY xY
          go_upto_region 11 with fail
          go_region
          go_wp2
          go_roundw
          case rel => exact ⟨i + 1, HI.out, by simp [EW.out], Lib.hid xE.out.drew⟩
          case measure => first | exact step_meas16 EW.out (step_less16 HI.out) | (simp [EW.out]; exact step_less16 HI.out) | exact step_less16 HI.out
        · go_simp
          have bb : Below u1.heap.size u1 (u1.alloc (.cells #[.int .u8 0, .int .u32 0, .int .u16 0, .int .u32 0, .int .u16 0, .int .i64 0, .int .i64 0] 44)) := (Below.refl _ _).alloc (Nat.le_refl _) _
          have x0' := x0.trans (bb.mono x0.size)
          have zz := RowB.none u1 44
          have nlE : be < u1.heap.size := E_.lt
          have E_9 := E_.on bb
          clear E_
          have E_ := E_9
          clear E_9
          refine hK.out _ _ (hHeld.on bb) (fun hH1 => ?_)
          clear hK K_ hHeld
          have hHeld := hH1
          clear hH1
          try simp only [List.getElem_toArray, List.getElem_cons_succ, List.getElem_cons_zero, Act.put, List.setIfInBounds_toArray, List.set_cons_zero, List.set_cons_succ]
          have gb : wr.heap.size ≤ u1.heap.size := x0.size
          generalize u1.alloc (.cells #[.int .u8 0, .int .u32 0, .int .u16 0, .int .u32 0, .int .u16 0, .int .i64 0, .int .i64 0] 44) = u1' at x0' zz hHeld E_ ⊢
          generalize u1.heap.size = bf at zz gb nlE ⊢
          clear bb
          refine wpAnyH_ready (rs := [11]) (by kernel_rfl) (by simp) ?_
          refine AllReadyH.cons (o := _) rfl (fun K_ hK => ?_) AllReadyH.nil
          go_simp
          refine (kow.out _ x0').mono ?_; rintro e u1'' ⟨rfl, bb⟩
          have x0'' := x0'.trans (bb.mono x0'.size)
          have E_9 := E_.on bb
          clear E_
          have E_ := E_9
          clear E_9
          have zz9 := zz.on bb
          clear zz
          have zz := zz9
          clear zz9
          show K_ _ _
          refine hK.out _ _ (hHeld.on bb) (fun hH1 => ?_)
          clear hK K_ hHeld
          have hHeld := hH1
          clear hH1
          try simp only [List.getElem_toArray, List.getElem_cons_succ, List.getElem_cons_zero, Act.put, List.setIfInBounds_toArray, List.set_cons_zero, List.set_cons_succ]
          clear bb
          refine wpAnyH_take (i := 12) (oi := _) (v := ?_) rfl (by kernel_rfl) (by kernel_rfl) (by kernel_rfl) (fun _ _ _ h => h) (Or.inl ⟨by kernel_rfl, ?_⟩) (by assumption) ?_
          rotate_left
          · intro w hSw
            clear hSw
            go_simp
            with_reducible rfl
          try simp only [List.getElem_toArray, List.getElem_cons_succ, List.getElem_cons_zero, Act.put, List.setIfInBounds_toArray, List.set_cons_zero, List.set_cons_succ]
          refine wpAnyH_take (i := 13) (oi := _) (v := ?_) rfl (by kernel_rfl) (by kernel_rfl) (by kernel_rfl) (fun _ _ _ h => h) (Or.inl ⟨by kernel_rfl, ?_⟩) (by assumption) ?_
          rotate_left
          · intro w hSw
            clear hSw
            go_simp
            with_reducible rfl
          try simp only [List.getElem_toArray, List.getElem_cons_succ, List.getElem_cons_zero, Act.put, List.setIfInBounds_toArray, List.set_cons_zero, List.set_cons_succ]
          refine wpAnyH_take (i := 14) (oi := _) (v := ?_) rfl (by kernel_rfl) (by kernel_rfl) (by kernel_rfl) (fun _ _ _ h => h) (Or.inl ⟨by kernel_rfl, ?_⟩) (by assumption) ?_
          rotate_left
          · intro w hSw
            clear hSw
            go_simp
            with_reducible rfl
          try simp only [List.getElem_toArray, List.getElem_cons_succ, List.getElem_cons_zero, Act.put, List.setIfInBounds_toArray, List.set_cons_zero, List.set_cons_succ]
          refine wpAnyH_ready (rs := [16]) (by kernel_rfl) (by simp) ?_
          refine AllReadyH.cons (o := _) rfl (fun K_ hK => ?_) AllReadyH.nil
          have HZ := Lib.hid zz
          obtain ⟨_, z0, z1, z2, z3, z4, z5, z6, zf⟩ := id zz
          simp only [Ro.zero] at z0 z1 z2 z3 z4 z5 z6
          clear zz
          go_simp
          refine row_ (r := r) HZ.out fun Y hY bY => ?_
          have xY := one_box x0'' bY gb x0''.size
          have gB : bf ≠ b := by have := HBL.out; omega
          have EY := E_.by bY (fun e => by omega)
          refine hK.out _ _ (hHeld.by bY (fun e => gB e.symm)) (fun hH1 => ?_)
          clear hK K_ hHeld
          have hHeld := hH1
          clear hH1
          try simp only [List.getElem_toArray, List.getElem_cons_succ, List.getElem_cons_zero, Act.put, List.setIfInBounds_toArray, List.set_cons_zero, List.set_cons_succ]
          refine wpAnyH_take (i := 17) (oi := _) (v := ?_) rfl (by kernel_rfl) (by kernel_rfl) (by kernel_rfl) (fun _ _ _ h => h) (Or.inl ⟨by kernel_rfl, ?_⟩) (by assumption) ?_
          rotate_left
          · intro w hSw
            clear hSw
            go_simp
            with_reducible rfl
          try simp only [List.getElem_toArray, List.getElem_cons_succ, List.getElem_cons_zero, Act.put, List.setIfInBounds_toArray, List.set_cons_zero, List.set_cons_succ]
          refine wpAnyH_done (by kernel_rfl) (NoPanic.normal ?_) _
          have RY := hHeld
          clear z0 z1 z2 z3 z4 z5 z6 zf HZ hHeld bY gb gB E_ nlE
          obtain ⟨_, e0, e1, e2, e3, e4, e5, e6, _⟩ := id EY
          obtain ⟨_, g0, g1, g2, g3, g4, g5, g6, _⟩ := id hY
          obtain ⟨_, l0, l1, l2, l3, l4, l5, l6⟩ := id RY
          have xE := Lib.hid (HB.out.trans (xY.mono HB.out.size))
          clear EY hY RY xY
          go_upto_region 11 with fail
          go_region
          go_wp2
          go_roundw
          case rel => exact ⟨i + 1, HI.out, by simp [EW.out], Lib.hid xE.out.drew⟩
          case measure => first | exact step_meas16 EW.out (step_less16 HI.out) | (simp [EW.out]; exact step_less16 HI.out) | exact step_less16 HI.out
    · obtain rfl : i = X.l.length := Nat.le_antisymm hi (Nat.le_of_not_lt hlt)
      have t1 : decide ((X.l.length : Int) < (X.l.length : Int)) = false := by simp
      clear hlt hi
      go_wp2
      go_ret
      exact ⟨rfl, L0.out.2.1.trans (HB.out.mono L0.out.2.1.size)⟩
end Go.Proofs.Ytbbadpidolfleaa
