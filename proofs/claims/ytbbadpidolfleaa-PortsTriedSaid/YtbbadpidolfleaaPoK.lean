/- What the laws of layer 16 ask of the code's ports. -/
import Derived.Test.YtbbadpidolfleaaVp
import Derived.Test.YtbbadpidolfleaaVa
import Derived.Test.YtbbadpidolfleaaRowE
import Derived.Test.YtbbadpidolfleaaGa
namespace Go.Proofs.Ytbbadpidolfleaa
set_option linter.unusedVariables false
set_option linter.unusedSimpArgs false
open Go.ChangeShapes Go.WideShapes Go.ChangeAt Go.RowKit Go.PlainAid
/-- A row's cells. -/
def Ro.cs (r : Ro) : List Value := [.int .u8 r.pr, .int .u32 r.oi, .int .u16 r.op, .int .u32 r.ii, .int .u16 r.ip, .int .i64 (r.lv : Int), .int .i64 (r.hd : Int)]
/-- The program's rows. -/
def eltR : Elt Ro where
  enc x := x.cs
  d := Ro.zero
  k := 7
  bytes := 40
  T := 44
  TS := 57
  pos := by decide
  len _ := rfl
  one x u hu := by
    simp only [Ro.cs, List.mem_cons, List.not_mem_nil, or_false] at hu
    rcases hu with rfl | rfl | rfl | rfl | rfl | rfl | rfl <;> rfl
  und := Try.underlying57
  el := by kernel_rfl
  inf := by
    have h : (Try.prog.info? 44).map (fun i => (i.zero, i.size, i.bytes)) = some (some (.agg #[.int .u8 0, .int .u32 0, .int .u16 0, .int .u32 0, .int .u16 0, .int .i64 0, .int .i64 0]), 7, 40) := by kernel_rfl
    cases hq : Try.prog.info? 44 with
    | none => rw [hq] at h; simp at h
    | some i0 =>
      rw [hq] at h
      simp only [Option.map_some, Option.some.injEq, Prod.mk.injEq] at h
      exact ⟨i0, _, rfl, h.1, h.2.1, h.2.2, rfl⟩
  sz w := Try.sizeOf44 w
/-- What is told of a row: it, and true; or nothing. -/
def rowV (o : Option Ro) : Value := .tuple #[.agg #[.int .u8 (o.getD Ro.zero).pr, .int .u32 (o.getD Ro.zero).oi, .int .u16 (o.getD Ro.zero).op, .int .u32 (o.getD Ro.zero).ii, .int .u16 (o.getD Ro.zero).ip, .int .i64 ((o.getD Ro.zero).lv : Int), .int .i64 ((o.getD Ro.zero).hd : Int)], .bool o.isSome]
/-- A wish, as it is handed on. -/
def Wi.v (w : Wi) : Value := .agg #[.int .u8 w.pr, .int .u32 w.ii, .int .u16 w.ip, .int .u32 w.oi, .int .u16 w.fr, .int .u16 w.to, .int .u16 w.dr]
/-- An endpoint. -/
def epV (i p : Int) : Value := .agg #[.int .u32 i, .int .u16 p]
/-- What a protocol and an endpoint may be. -/
structure EOk (pr i p : Int) : Prop where
  pr0 : 0 ≤ pr
  pr1 : pr < 256
  i0 : 0 ≤ i
  i1 : i < 4294967296
  p0 : 0 ≤ p
  p1 : p < 65536
theorem EOk.row {pr ii ip oi op : Int} (h : EOk pr ii ip) (k : EOk pr oi op) : ROk ⟨pr, oi, op, ii, ip, 0, 1⟩ := ⟨h.pr0, h.pr1, k.i0, k.i1, k.p0, k.p1, h.i0, h.i1, h.p0, h.p1⟩
structure PortsOk extends ObjP Po where
  ok : ∀ {w S p x}, Rep w S p x → x.Ok
  news : ∀ (w : World), Calls Try.prog 9 #[] w fun e w' => ∃ q S, e = .returned (.pointer (some ⟨q, 0, none⟩)) ∧ Below w.heap.size w w' ∧ (∀ k, S k → w.heap.size ≤ k) ∧ Rep w' S q Po.new
  takes : ∀ (p S x) (v : Wi) (w : World), Rep w S p x → x.Few 1000 → WOk v → Told Try.prog toObjP 11 #[.pointer (some ⟨p, 0, none⟩), .agg #[.int .u8 v.pr, .int .u32 v.ii, .int .u16 v.ip, .int .u32 v.oi, .int .u16 v.fr, .int .u16 v.to, .int .u16 v.dr]] w S p (.tuple #[.agg #[.int .u32 (x.take v).1.1.1, .int .u16 (x.take v).1.1.2], .int .i64 ((x.take v).1.2 : Int)]) (x.take v).2
  fixes : ∀ (p S x) (pr ii ip oi op : Int) (w : World), Rep w S p x → x.Few 1000 → EOk pr ii ip → EOk pr oi op → Told Try.prog toObjP 21 #[.pointer (some ⟨p, 0, none⟩), .int .u8 pr, .agg #[.int .u32 ii, .int .u16 ip], .agg #[.int .u32 oi, .int .u16 op]] w S p (.int .i64 ((x.fix pr ii ip oi op).1 : Int)) (x.fix pr ii ip oi op).2
  cons : ∀ (p S x) (pr oi op : Int) (w : World), Rep w S p x → x.Few 1000 → EOk pr oi op → Told Try.prog toObjP 22 #[.pointer (some ⟨p, 0, none⟩), .int .u8 pr, .agg #[.int .u32 oi, .int .u16 op]] w S p (.int .i64 ((x.chg .con pr oi op).1 : Int)) (x.chg .con pr oi op).2
  drps : ∀ (p S x) (pr oi op : Int) (w : World), Rep w S p x → x.Few 1000 → EOk pr oi op → Told Try.prog toObjP 23 #[.pointer (some ⟨p, 0, none⟩), .int .u8 pr, .agg #[.int .u32 oi, .int .u16 op]] w S p (.int .i64 ((x.chg .drp pr oi op).1 : Int)) (x.chg .drp pr oi op).2
  rels : ∀ (p S x) (pr oi op : Int) (w : World), Rep w S p x → x.Few 1000 → EOk pr oi op → Told Try.prog toObjP 24 #[.pointer (some ⟨p, 0, none⟩), .int .u8 pr, .agg #[.int .u32 oi, .int .u16 op]] w S p (.int .i64 ((x.chg .rel pr oi op).1 : Int)) (x.chg .rel pr oi op).2
  ofs : ∀ (p S x) (pr ii ip : Int) (w : World), Rep w S p x → x.Few 1000 → EOk pr ii ip → Says Try.prog 14 #[.pointer (some ⟨p, 0, none⟩), .int .u8 pr, .agg #[.int .u32 ii, .int .u16 ip]] w (rowV (x.ofI pr ii ip))
  owners : ∀ (p S x) (pr oi op : Int) (w : World), Rep w S p x → x.Few 1000 → EOk pr oi op → Says Try.prog 15 #[.pointer (some ⟨p, 0, none⟩), .int .u8 pr, .agg #[.int .u32 oi, .int .u16 op]] w (rowV (x.ofO pr oi op))
  lists : ∀ (p S x) (w : World), Rep w S p x → x.Few 1000 → Calls Try.prog 25 #[.pointer (some ⟨p, 0, none⟩)] w fun e w' => ∃ (a : Option Addr) (c : Nat), e = .returned (.slice a x.l.length c) ∧ Below w.heap.size w w' ∧ eltR.Sl w' a c x.l ∧ ∀ b off, a = some ⟨b, off, none⟩ → w.heap.size ≤ b ∧ b < w'.heap.size
  counts : ∀ (p S x) (w : World), Rep w S p x → x.Few 1000 → Says Try.prog 26 #[.pointer (some ⟨p, 0, none⟩)] w (.int .i64 (x.l.length : Int))
  copies : ∀ (p S x) (w : World), Rep w S p x → x.Few 1000 → Calls Try.prog 10 #[.pointer (some ⟨p, 0, none⟩)] w fun e w' => ∃ q S', e = .returned (.pointer (some ⟨q, 0, none⟩)) ∧ Below w.heap.size w w' ∧ (∀ k, S' k → w.heap.size ≤ k) ∧ Rep w' S' q x
end Go.Proofs.Ytbbadpidolfleaa
