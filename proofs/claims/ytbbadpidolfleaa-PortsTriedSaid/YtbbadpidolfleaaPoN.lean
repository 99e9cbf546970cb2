/- Ports that are none (layer 16). -/
import Derived.Test.YtbbadpidolfleaaPoK
namespace Go.Proofs.Ytbbadpidolfleaa
set_option linter.unusedVariables false
set_option linter.unusedSimpArgs false
open Go.ChangeShapes Go.WideShapes Go.ChangeAt Go.RowKit Go.PlainAid
/-- What the laws ask of ports that are none. -/
structure PoNone where
  No : World → Value → Prop
  Z : Array Value
  nil : ∀ w, No w (.pointer none)
  zrun : ∀ u : World, (zeroValue 63).run Try.prog u = .ok (.agg Z) u
  zero : ∀ w : World, No (w.alloc (.cells Z 63)) (.pointer (some ⟨w.heap.size, 0, none⟩))
  on : ∀ {w w' : World} {v : Value}, No w v → Below w.heap.size w w' → No w' v
  takes : ∀ (v : Value) (x : Wi) (w : World), No w v → Says Try.prog 11 #[v, .agg #[.int .u8 x.pr, .int .u32 x.ii, .int .u16 x.ip, .int .u32 x.oi, .int .u16 x.fr, .int .u16 x.to, .int .u16 x.dr]] w (.tuple #[.agg #[.int .u32 0, .int .u16 0], .int .i64 1])
  fixes : ∀ (v : Value) (pr ii ip oi op : Int) (w : World), No w v → Says Try.prog 21 #[v, .int .u8 pr, .agg #[.int .u32 ii, .int .u16 ip], .agg #[.int .u32 oi, .int .u16 op]] w (.int .i64 1)
  cons : ∀ (v : Value) (pr oi op : Int) (w : World), No w v → Says Try.prog 22 #[v, .int .u8 pr, .agg #[.int .u32 oi, .int .u16 op]] w (.int .i64 1)
  drps : ∀ (v : Value) (pr oi op : Int) (w : World), No w v → Says Try.prog 23 #[v, .int .u8 pr, .agg #[.int .u32 oi, .int .u16 op]] w (.int .i64 1)
  rels : ∀ (v : Value) (pr oi op : Int) (w : World), No w v → Says Try.prog 24 #[v, .int .u8 pr, .agg #[.int .u32 oi, .int .u16 op]] w (.int .i64 1)
  ofs : ∀ (v : Value) (pr oi op : Int) (w : World), No w v → Says Try.prog 14 #[v, .int .u8 pr, .agg #[.int .u32 oi, .int .u16 op]] w (rowV none)
  owners : ∀ (v : Value) (pr oi op : Int) (w : World), No w v → Says Try.prog 15 #[v, .int .u8 pr, .agg #[.int .u32 oi, .int .u16 op]] w (rowV none)
  lists : ∀ (v : Value) (w : World), No w v → Says Try.prog 25 #[v] w (.slice none 0 0)
  counts : ∀ (v : Value) (w : World), No w v → Says Try.prog 26 #[v] w (.int .i64 0)
  copies : ∀ (v : Value) (w : World), No w v → Says Try.prog 10 #[v] w (.pointer none)
end Go.Proofs.Ytbbadpidolfleaa
