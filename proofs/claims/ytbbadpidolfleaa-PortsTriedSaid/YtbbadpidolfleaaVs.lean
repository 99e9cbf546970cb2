/- Texts of this proof, together: PzI, PzQ. -/
import Derived.Test.YtbbadpidolfleaaVb
import Derived.Test.YtbbadpidolfleaaMapW
import Derived.Test.YtbbadpidolfleaaSeq
import Derived.RangeFuncKeeps
import Derived.RangeFuncCalls
import Derived.Shelf.Abstract
import Derived.WalkKit
import Derived.OwnWalkIn
import Derived.TacticsInMore
import Derived.RegionIn
import Derived.LoopNIn
import Derived.LoopIn
import Derived.RangeFuncNested
import Derived.RangeFuncLeaves
namespace Go.Proofs.Ytbbadpidolfleaa
set_option linter.unusedVariables false
set_option maxRecDepth 100000
set_option linter.unusedSimpArgs false
open Go.ChangeShapes Go.WideShapes Go.ChangeAt Go.RowKit Go.PlainAid
theorem eR_inj {q r : Ro} (h : q.eR = r.eR) : q = r := by
  have h2 := congrArg Prod.snd h
  unfold Ro.eR Ro.v at h2
  simp only [] at h2
  injection h2 with h2
  simp at h2
  obtain ⟨q1, q2, q3, q4, q5, q6, q7⟩ := q
  obtain ⟨r1, r2, r3, r4, r5, r6, r7⟩ := r
  simp only [] at h2
  obtain ⟨rfl, rfl, rfl, rfl, rfl, h6, h7⟩ := h2
  rw [Int.ofNat_inj.1 h6, Int.ofNat_inj.1 h7]
/-- One more has come. -/
theorem come {l pre rest : List Ro} {M M' : List (En × Value)} {k : En} {v : Value} (h1 : M.Perm (rest.map Ro.eR)) (h2 : (pre ++ rest).Perm l) (h3 : M.Perm ((k, v) :: M')) : ∃ q rest', v = q.v ∧ k = ⟨q.pr, q.oi, q.op⟩ ∧ M'.Perm (rest'.map Ro.eR) ∧ ((pre ++ [q]) ++ rest').Perm l := by
  have hm : (k, v) ∈ rest.map Ro.eR := (h1.symm.trans h3).mem_iff.2 (List.mem_cons_self ..)
  obtain ⟨q, hq, e⟩ := List.mem_map.1 hm
  obtain ⟨a, b, rfl⟩ := List.append_of_mem hq
  refine ⟨q, a ++ b, (congrArg Prod.snd e).symm, (congrArg Prod.fst e).symm, ?_, ?_⟩
  · have h4 : ((k, v) :: M').Perm ((k, v) :: (a ++ b).map Ro.eR) := by
      refine (h3.symm.trans h1).trans ?_
      rw [← e, List.map_append, List.map_cons, List.map_append]
      exact List.perm_middle
    exact h4.cons_inv
  · refine List.Perm.trans ?_ h2
    rw [List.append_assoc]
    exact List.Perm.append_left pre (List.perm_middle.symm : (q :: (a ++ b)).Perm (a ++ q :: b))
theorem come_lt {l pre rest : List Ro} {q : Ro} (h : ((pre ++ [q]) ++ rest).Perm l) : pre.length < l.length := by
  have := h.length_eq
  simp at this
  omega
theorem came_all {l pre rest : List Ro} {M : List (En × Value)} (h1 : M.Perm (rest.map Ro.eR)) (h2 : (pre ++ rest).Perm l) (h3 : M = []) : pre.Perm l := by
  subst h3
  have := h1.length_eq
  rw [List.length_map] at this
  obtain rfl : rest = [] := List.eq_nil_of_length_eq_zero this.symm
  rw [List.append_nil] at h2
  exact h2
attribute [local go_sem] Oper.semAt_some
set_option maxHeartbeats 2000000 in
theorem pz_vals_ {W0 : World} {rb Bm : Nat} {x : Po} (h : enK.Map W0 rb (x.l.map Ro.eR)) (hB : W0.cell? ⟨Bm, 0, none⟩ = some (.map (some rb))) :
    SeqStopsK Fence.wide 8 Try.prog 54 #[.pointer (some ⟨Bm, 0, none⟩)] (fun r : Ro => #[r.v]) KeepsWalks (fun ys => ys.Perm x.l) (fun _ => True) x.l.length W0 := by
  intro l J Jx W hW hJ hJx hY h0
  refine callsIn_of_wp Try.func54 rfl trivial ?_ rfl
  simp only [Try.ntmps54, List.size_toArray, List.length_cons, List.length_nil, Nat.reduceAdd, Nat.reduceSub, Array.replicate_succ, Array.replicate_zero, List.push_toArray, List.append_toArray, List.nil_append, List.cons_append, Array.append_empty]
  have hb := (hW.cell (World.block_lt_of_cell? _ _ hB)).trans hB
  have HJ := Lib.hid hJ
  have HY := Lib.hid hY
  obtain ⟨w1, hr, hit, hg, hs⟩ := (h.on hW).range Try.underlying60
  have J1 := hJ [] W w1 none h0 hg (fun r e => by cases e)
  have P0 := Lib.hid (And.intro hit J1)
  clear h hB hJ hJx hY h0 hit J1 hg hs
  gi_wp2
  gi_loopw [4] (fun _ wr => ∃ (pre rest : List Ro) (M : List (En × Value)), Hid (enK.Iter wr rb W.heap.size (x.l.map Ro.eR) M ∧ M.Perm (rest.map Ro.eR) ∧ (pre ++ rest).Perm x.l ∧ J pre wr))
    (fun _ wr => wr.rangeLeft rb W.heap.size)
  case atStart => exact ⟨[], x.l, _, P0.out.1, List.Perm.refl _, List.Perm.refl _, P0.out.2⟩
  case round =>
    clear P0 hr
    obtain ⟨pre, rest, M, HQ⟩ := hrel
    rcases HQ.out.1.nextL 0 with ⟨hM, hr⟩ | ⟨k, v, M', w2, hp, hin, hr0, hit2, hg2, hs2, hen0, hlt⟩
    · have hm := Lib.hid hM
      clear hM
      gi_wp2
      first | go_end0 | refine bodyPost_ret (results_none rfl _ _ _) rfl ?_
      exact ⟨⟨_, rfl⟩, .inl ⟨pre, came_all HQ.out.2.1 HQ.out.2.2.1 hm.out, HQ.out.2.2.2⟩⟩
    · obtain ⟨q, rest', rfl, rfl, p1, p2⟩ := come HQ.out.2.1 HQ.out.2.2.1 hp
      have J2 := HJ.out pre wr w2 (some W.heap.size) HQ.out.2.2.2 hg2 (fun r e => by cases e; exact ⟨Nat.le_refl _, HQ.out.1.isWalk⟩)
      have J3 := HJ.out pre w2 (w2.alloc (.cells #[.int .u8 q.pr, .int .u32 q.oi, .int .u16 q.op, .int .u32 q.ii, .int .u16 q.ip, .int .i64 (q.lv : Int), .int .i64 (q.hd : Int)] 44)) none J2 (World.grownBy_alloc w2 _ none) (fun r e => by cases e)
      obtain ⟨fn, tmps, assign, body, hy0, hR⟩ := HY.out pre q (w2.alloc (.cells #[.int .u8 q.pr, .int .u32 q.oi, .int .u16 q.op, .int .u32 q.ii, .int .u16 q.ip, .int .i64 (q.lv : Int), .int .i64 (q.hd : Int)] 44)) J3 (come_lt p2)
      have hr : (Instr.next (.pointer (some ⟨W.heap.size, 0, none⟩)) false 0).run Try.prog wr = .ok (.tuple #[.bool true, .agg #[.int .u8 q.pr, .int .u32 q.oi, .int .u16 q.op], .agg #[.int .u8 q.pr, .int .u32 q.oi, .int .u16 q.op, .int .u32 q.ii, .int .u16 q.ip, .int .i64 (q.lv : Int), .int .i64 (q.hd : Int)]]) w2 := hr0
      have hen : (Instr.entry (.pointer (some ⟨W.heap.size, 0, none⟩))).run Try.prog w2 = .ok (.tuple #[.agg #[.int .u8 q.pr, .int .u32 q.oi, .int .u16 q.op], .agg #[.int .u8 q.pr, .int .u32 q.oi, .int .u16 q.op, .int .u32 q.ii, .int .u16 q.ip, .int .i64 (q.lv : Int), .int .i64 (q.hd : Int)]]) w2 := hen0
      have hy : (Instr.yield l #[.agg #[.int .u8 q.pr, .int .u32 q.oi, .int .u16 q.op, .int .u32 q.ii, .int .u16 q.ip, .int .i64 (q.lv : Int), .int .i64 (q.hd : Int)]]).run Try.prog (w2.alloc (.cells #[.int .u8 q.pr, .int .u32 q.oi, .int .u16 q.op, .int .u32 q.ii, .int .u16 q.ip, .int .i64 (q.lv : Int), .int .i64 (q.hd : Int)] 44)) = .ok (.round l fn tmps assign body) (w2.alloc (.cells #[.int .u8 q.pr, .int .u32 q.oi, .int .u16 q.op, .int .u32 q.ii, .int .u16 q.ip, .int .i64 (q.lv : Int), .int .i64 (q.hd : Int)] 44)) := hy0
      have HI := Lib.hid (And.intro hit2 (And.intro p1 (And.intro p2 hlt)))
      clear hp hin hit2 hg2 hs2 hlt J2 J3 p1 p2 HQ hr0 hen0 hy0
      gi_wp2
      refine hR.mono ?_
      rintro e W3 (⟨rfl, hJ3, hk3⟩ | ⟨rfl, hf⟩)
      · gi_wp2
        have k3 := (KeepsWalks.alloc w2 (.cells #[.int .u8 q.pr, .int .u32 q.oi, .int .u16 q.op, .int .u32 q.ii, .int .u16 q.ip, .int .i64 (q.lv : Int), .int .i64 (q.hd : Int)] 44)).trans hk3
        have Q3 := Lib.hid (And.intro (HI.out.1.walks k3) (And.intro HI.out.2.1 (And.intro HI.out.2.2.1 hJ3)))
        have LT := Lib.hid (show W3.rangeLeft rb W.heap.size < wr.rangeLeft rb W.heap.size by rw [HI.out.1.left_keep k3]; exact HI.out.2.2.2)
        clear hJ3 hk3 k3 HI
        go_roundw
        case rel => exact ⟨pre ++ [q], rest', M', Q3⟩
        case measure => exact LT.out
      · gi_wp2
        refine bodyPost_ret (results_none rfl _ _ _) rfl ?_
        exact ⟨⟨_, rfl⟩, .inr ⟨_, trivial, hf⟩⟩
end Go.Proofs.Ytbbadpidolfleaa

namespace Go.Proofs.Ytbbadpidolfleaa
set_option linter.unusedVariables false
set_option maxRecDepth 100000
set_option linter.unusedSimpArgs false
open Go.ChangeShapes Go.WideShapes Go.ChangeAt Go.RowKit Go.PlainAid
theorem walks_of_others {W W' : World} (h : KeepsOthers W W') : KeepsWalks W W' := ⟨h.size, fun k o hk hw => h.same k o hk (Obj.not_cells_of_walk hw)⟩
/-- A call of append in a fenced walk, its run given. -/
theorem append_runIn {F : Fence} {n : Nat} {P : Program} (w : World) {ops : Array Oper} {rest : List Oper} {o : Oper} {a : Act} {Q : Exit → Act → World → Prop} (hg : o.guard = none) (s x : Operand) (t u : TypeId)
    (ho : o.op = .call { callee := .builtin .append, args := #[s, x], argTypes := #[t, u] }) (vs vx : Value) (hs : a.eval s = vs) (hx : a.eval x = vx) {v' : Value} {w' : World} (hr : (Builtin.append_ #[t, u] o.type #[vs, vx]).run P w = .ok v' w')
    (h : wpListIn F n P ops Q rest (a.put o.dst v') w') : wpListIn F n P ops Q (o :: rest) a w := by
  refine wpListIn_plain hg fun K hK => ?_
  unfold Oper.wpIn
  refine ⟨by simp [Oper.about, ho, resolve, Target.leads, Sem.run_pure], ?_⟩
  rw [Oper.semAt_plain F _ _ (by rw [ho]; intro c hc'; cases hc')]
  simp only [execOp, ho, resolve, invoke, builtin, Sem.run_bind, Sem.run_pure, Result.andThen_ok, List.map_toArray, List.map_cons, List.map_nil, hs, hx, hr]
  exact hK _ _ h
/-- One more row, behind those that there are. -/
theorem boxed_more {W : World} {B g0 : Nat} {v : Value} {l : List Ro} (hv : Boxed W g0 57 v) (ho : eltR.Own W B v l) (hB : B ≤ g0) (a : Ro) (hl : l.length < 1000) :
    ∃ w1 g c, (Builtin.append_ #[57, 57] 57 #[v, .slice (some ⟨W.heap.size, 0, none⟩) 1 1]).run Try.prog (W.alloc (.cells #[.int .u8 a.pr, .int .u32 a.oi, .int .u16 a.op, .int .u32 a.ii, .int .u16 a.ip, .int .i64 (a.lv : Int), .int .i64 (a.hd : Int)] 44)) = .ok (.slice (some ⟨g, 0, none⟩) (l.length + 1) c) w1 ∧ Boxed w1 g0 57 v ∧
      Boxed (w1.setCell ⟨g0, 0, none⟩ (.slice (some ⟨g, 0, none⟩) (l.length + 1) c)) g0 57 (.slice (some ⟨g, 0, none⟩) (l.length + 1) c) ∧ eltR.Own (w1.setCell ⟨g0, 0, none⟩ (.slice (some ⟨g, 0, none⟩) (l.length + 1) c)) B (.slice (some ⟨g, 0, none⟩) (l.length + 1) c) (l ++ [a]) ∧ KeepsOthers W (w1.setCell ⟨g0, 0, none⟩ (.slice (some ⟨g, 0, none⟩) (l.length + 1) c)) ∧ Below B W (w1.setCell ⟨g0, 0, none⟩ (.slice (some ⟨g, 0, none⟩) (l.length + 1) c)) := by
  have hBs : B ≤ W.heap.size := by have := hv.lt; omega
  obtain ⟨v', w', hrun, hown, hgrow, _⟩ := (ho.alloc (.cells #[.int .u8 a.pr, .int .u32 a.oi, .int .u16 a.op, .int .u32 a.ii, .int .u16 a.ip, .int .i64 (a.lv : Int), .int .i64 (a.hd : Int)] 44)).append 57 (Elt.Sl.box (E := eltR) W a 44 #[.int .u8 a.pr, .int .u32 a.oi, .int .u16 a.op, .int .u32 a.ii, .int .u16 a.ip, .int .i64 (a.lv : Int), .int .i64 (a.hd : Int)] rfl)
    (by show (l.length + 1) * 40 ≤ _; omega) (by show l.length + 1 ≤ 9223372036854775807; omega) (by simp; omega)
  have hs : ∃ g c, v' = .slice (some ⟨g, 0, none⟩) (l.length + 1) c := by
    have h2 : w'.ownsRow B 44 7 v' (l ++ [a]).length (eltR.vals (l ++ [a])) := hown
    rw [List.length_append] at h2
    obtain ⟨g, c, e⟩ := ownsRow_succ h2
    exact ⟨g, c, e⟩
  obtain ⟨g, c, rfl⟩ := hs
  have ha := Boxed.appended hv (e := 44) (by decide) (show W.ownsRow B 44 7 v l.length (eltR.vals l) from ho) hBs hB (show w'.ownsRow B 44 7 (.slice (some ⟨g, 0, none⟩) (l.length + 1) c) (l ++ [a]).length (eltR.vals (l ++ [a])) from hown) hgrow
  exact ⟨w', g, c, hrun, ha.1, ha.2.1, ha.2.2.1, ha.2.2.2.1, ha.2.2.2.2⟩
attribute [local go_sem] Oper.semAt_some
set_option maxHeartbeats 3000000 in
/-- slices.AppendSeq(nil, seq). -/
theorem pz_append_ {W0 : World} {gf : Nat} {lb : Array Value} (eg : ∀ args w, (callFunc gf args).run Try.prog w = .ok (.enter gf args) w) {S Sp : List Ro → Prop} {N : Nat} (hN : N ≤ 1000) (hseq : SeqStopsK Fence.wide 8 Try.prog gf lb (fun r : Ro => #[r.v]) KeepsWalks S Sp N W0) :
    Calls Try.prog 61 #[.slice none 0 0, .func (.func gf) #[] lb] W0 fun e W' => ∃ v l, e = .returned v ∧ S l ∧ eltR.Own W' W0.heap.size v l ∧ Below W0.heap.size W0 W' := by
  refine (callsIn_wide (n := 9)).1 ?_
  refine callsIn_of_wp_marks Try.func61 rfl trivial ?_ rfl
  simp only [Try.ntmps61, List.size_toArray, List.length_cons, List.length_nil, Nat.reduceAdd, Nat.reduceSub, Array.replicate_succ, Array.replicate_zero, List.push_toArray, List.append_toArray, List.nil_append, List.cons_append, Array.append_empty]
  gi_wp2_with fail
  have X1 := Boxed.new W0 57 (.slice none 0 0)
  have B1 : Below W0.heap.size W0 (W0.alloc (.cells #[.slice none 0 0] 57)) := (Below.refl _ W0).alloc (Nat.le_refl _) _
  have O1 : eltR.Own (W0.alloc (.cells #[.slice none 0 0] 57)) W0.heap.size (.slice none 0 0) [] := Elt.Own.nil _ _
  have z1 : (W0.alloc (.cells #[.slice none 0 0] 57)).heap.size = W0.heap.size + 1 := by simp
  generalize W0.alloc (.cells #[.slice none 0 0] 57) = w1 at X1 B1 O1 z1 ⊢
  have hown : Own (fun (s : List Ro) W => ∃ v, Boxed W W0.heap.size 57 v ∧ W.ownsRow W0.heap.size 44 7 v s.length (eltR.vals s) ∧ True) := holdsRow_own W0.heap.size W0.heap.size 57 44 7 List.length eltR.vals (fun _ _ => True)
  have HI : OwnFrom w1.heap.size (fun (s : List Ro) W => (∃ v, Boxed W W0.heap.size 57 v ∧ W.ownsRow W0.heap.size 44 7 v s.length (eltR.vals s) ∧ True) ∧ Below W0.heap.size W0 W) := OwnFrom.and (hown.from _) (ownFrom_below (Nat.le_refl _) (by omega))
  apply wpIn_rangeFunc_ownH (gf := gf) (lb := lb) (encs := fun r : Ro => #[.agg #[.int .u8 r.pr, .int .u32 r.oi, .int .u16 r.op, .int .u32 r.ii, .int .u16 r.ip, .int .i64 (r.lv : Int), .int .i64 (r.hd : Int)]]) (Kp := KeepsWalks) (S := S) (Sp := Sp) (N := N) (w0 := W0)
    (I := fun s W => (∃ v, Boxed W W0.heap.size 57 v ∧ W.ownsRow W0.heap.size 44 7 v s.length (eltR.vals s) ∧ True) ∧ Below W0.heap.size W0 W)
    (Ix := fun _ _ _ => False)
    (Ax := fun x a' W => ∃ b, RowB W b x ∧ a' = { tmps := #[.slice none 0 0, .func (.func gf) #[] lb, .pointer (some ⟨W0.heap.size, 0, none⟩), undef, .slice none 0 0, .pointer (some ⟨b, 0, none⟩), .func (.func gf) #[] lb, .agg #[.int .u8 x.pr, .int .u32 x.oi, .int .u16 x.op, .int .u32 x.ii, .int .u16 x.ip, .int .i64 (x.lv : Int), .int .i64 (x.hd : Int)], undef, undef, undef, undef, undef], defers := [] })
  case hro => rfl
  case h1 => omega
  case hg => rfl
  case hFg => trivial
  case eg => exact eg
  case hseq => exact hseq
  case hKt => exact fun h k => h.trans k
  case hKb => exact fun W l o o' _ h _ hw => KeepsWalks.putObj o' h hw
  case hb0 => exact B1
  case hps => exact fun _ => rfl
  case hI => exact HI
  case hIx => exact fun _ _ _ _ _ hs _ _ => hs
  case h0 => exact ⟨⟨_, X1, O1, trivial⟩, B1⟩
  case hAx => exact fun x a' _ A C row ⟨b, hb, e⟩ hg hr => ⟨b, hb.keep hg.size (hg.block b hb.lt (fun e2 => by
      obtain ⟨_, o, ho, hc⟩ := hr b e2.symm
      have h0 := hb.c0
      unfold World.cell? at h0
      rw [ho] at h0
      cases o <;> simp_all [Obj.isCells])), e⟩
  case hassign =>
    intro l pre x W K hi hK
    gi_wp2
    refine hK _ _ ((KeepsOthers.alloc W _).from _) (KeepsWalks.alloc W _) (HI.alloc _ hi) ⟨_, RowB.made W x 44, rfl⟩
  case hbody =>
    rintro l pre x a' W hl hr ⟨⟨v, hv, ho, _⟩, hb⟩ ⟨b, hbx, rfl⟩ hlen
    obtain ⟨w2, g, c, hrun, b1, b2, o2, k2, l2⟩ := boxed_more hv ho (Nat.le_refl _) x (Nat.lt_of_lt_of_le hlen hN)
    obtain ⟨a, c0, ev, _, _⟩ := Elt.Own.sl (E := eltR) (show eltR.Own W W0.heap.size v pre from ho)
    subst ev
    have v0 := hv.cell
    obtain ⟨_, x0, x1, x2, x3, x4, x5, x6, xf⟩ := id hbx
    have y0 := b1.cell
    have y1 := b1.frozen
    have FIN := Lib.hid (And.intro b2 (And.intro o2 (And.intro k2 (And.intro l2 hb))))
    have RUN := Lib.hid hrun
    clear hv ho hb hbx b1 b2 o2 k2 hlen hr hrun
    gi_wp2_with (gi_at_builtin; refine append_runIn _ rfl _ _ 57 57 rfl _ _ rfl rfl RUN.out ?_)
    exact ⟨FIN.out.2.2.1.from _, walks_of_others FIN.out.2.2.1, ⟨_, FIN.out.1, by rw [List.length_append]; exact (by have h2 := FIN.out.2.1; unfold Elt.Own at h2; rw [List.length_append] at h2; exact h2), trivial⟩, FIN.out.2.2.2.2.trans FIN.out.2.2.2.1⟩
  case hstop =>
    rintro D c pre W _ _ h _
    exact h.elim
  case hdone =>
    rintro D ys W hD hS ⟨⟨v, hv, ho, _⟩, hb⟩ hd
    have v0 := hv.cell
    have HO := Lib.hid (And.intro (show eltR.Own W W0.heap.size v ys from ho) hb)
    clear hv ho hb
    gi_wp2_with fail
    have hD2 := (Array.getElem?_eq_some_iff.1 hd).1
    have b9 := below_putObj (b := w1.heap.size) W (.deferred none) hD hd
    have o9 : eltR.Own (W.putObj D (.deferred none)) W0.heap.size v ys := HO.out.1.keep fun g hg => World.putObj_heap_other (fun e => by
      have h2 := HO.out.1.2
      rcases h2 with ⟨h3, _⟩ | ⟨g2, c2, cur, h3, _, h4, _⟩
      · rw [h3] at hg; cases hg
      · rw [h3] at hg
        have hg : g2 = g := by injection hg
        rw [hg, e, hd] at h4
        cases h4)
    exact ⟨by simp, .inl ⟨_, _, rfl, run_takeDeferred hd, ⟨_, results_tmp rfl _ _ _, v, ys, rfl, hS, o9, HO.out.2.trans (b9.mono (by omega))⟩⟩⟩
end Go.Proofs.Ytbbadpidolfleaa
