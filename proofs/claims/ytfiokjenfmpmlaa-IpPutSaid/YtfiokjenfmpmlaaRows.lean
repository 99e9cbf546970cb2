/-
  No cell of these rows narrows 'for every input' (looked for: loops, veiled, ifaces, maps, wideKeys, modest, calm, conditions, laid).
  DERIVED. THE GIVEN ROWS OF THIS SEAT. 5 by the template 'for every input the law returns true; each argument reads behind the call as it read before'; 0 by the template 'total and deterministic' (their statements: YtfiokjenfmpmlaaTotals.lean).
  GIVEN WITH THE SEED: the statements are not yours to turn. If you find one false, say at which input.
  Laid BY PROGRAM, IN A SANDBOX (cutbox-rows.mjs): the forced cells as the released guide's own fill.sh prints them over the translation 44b788dbb3176102… (all of the seat's roots in one cut). By AI agents, Wed Nov 11 2026. No macro, syntax, notation, axiom, sorry.
-/
import Derived.Test.YtfiokjenfmpmlaaChecked
import GoSem.Claim
import GoSem.ClaimJoined
import GoSem.ClaimMapViews
import Derived.JoinedTies
import Derived.KernelRfl
namespace Go.Proofs.Ytfiokjenfmpmlaa
/- THE CELL 'sum', in the pinned program and in every row, IS THE sha256 OF THE DUMP (.gsa) THAT YtfiokjenfmpmlaaProg.lean LOADS. Nothing in Lean hashes anything: it is a label: what it is worth is what the hold of that sum in a sandbox is worth. -/
noncomputable def Try.pinned : Pinned := { name := "ytfiokjenfmpmlaa", sum := "44b788dbb31761023eb336db6318705a1a79e31a7235c4d5a832e98f20c0e451", checked := Try.checked }
namespace Rows
def none {H : Type} : Left H := { results := [], args := [] }

/-- 'porterlaw04.IpParse': WHATEVER THE INPUT: true; the input reads as it did. -/
def ipParseSpec : ChangeSpec := { name := "ipParse", fn := fun _ => fun
  | [d] => { results := [.lit (.bool true)], args := [d] }
  | _ => none }
def ipParseRow : OpenClaim := { program := "ytfiokjenfmpmlaa", sum := "44b788dbb31761023eb336db6318705a1a79e31a7235c4d5a832e98f20c0e451", func := "porter/porterlaw04.IpParse", spec := "ipParse", inPlace := ["internal/abi.NoEscape", "internal/bytealg.MakeNoZero"], apart := false }
def IpParseSaid : Prop := ipParseRow.holds Try.pinned (OpenSpec.ofChange ipParseSpec)

/-- ITS FALSE NEIGHBOUR: 'it returns false'. Refute it at one input. -/
def ipParseWrong : ChangeSpec := { name := "ipParse", fn := fun _ => fun
  | [d] => { results := [.lit (.bool false)], args := [d] }
  | _ => none }
def IpParseWrongFalsely : Prop := ipParseRow.holds Try.pinned (OpenSpec.ofChange ipParseWrong)

/-- 'porterlaw04.IpPut': WHATEVER THE INPUT: true; the input reads as it did. -/
def ipPutSpec : ChangeSpec := { name := "ipPut", fn := fun _ => fun
  | [d1, d2] => { results := [.lit (.bool true)], args := [d1, d2] }
  | _ => none }
def ipPutRow : OpenClaim := { program := "ytfiokjenfmpmlaa", sum := "44b788dbb31761023eb336db6318705a1a79e31a7235c4d5a832e98f20c0e451", func := "porter/porterlaw04.IpPut", spec := "ipPut", inPlace := ["internal/abi.NoEscape", "internal/bytealg.MakeNoZero"], apart := false }
def IpPutSaid : Prop := ipPutRow.holds Try.pinned (OpenSpec.ofChange ipPutSpec)

/-- ITS FALSE NEIGHBOUR: 'it returns false'. Refute it at one input. -/
def ipPutWrong : ChangeSpec := { name := "ipPut", fn := fun _ => fun
  | [d1, d2] => { results := [.lit (.bool false)], args := [d1, d2] }
  | _ => none }
def IpPutWrongFalsely : Prop := ipPutRow.holds Try.pinned (OpenSpec.ofChange ipPutWrong)

/-- 'porterlaw04.IpBack': WHATEVER THE INPUT: true; the input reads as it did. -/
def ipBackSpec : ChangeSpec := { name := "ipBack", fn := fun _ => fun
  | [d1, d2, d3] => { results := [.lit (.bool true)], args := [d1, d2, d3] }
  | _ => none }
def ipBackRow : OpenClaim := { program := "ytfiokjenfmpmlaa", sum := "44b788dbb31761023eb336db6318705a1a79e31a7235c4d5a832e98f20c0e451", func := "porter/porterlaw04.IpBack", spec := "ipBack", inPlace := ["internal/abi.NoEscape", "internal/bytealg.MakeNoZero"], apart := false }
def IpBackSaid : Prop := ipBackRow.holds Try.pinned (OpenSpec.ofChange ipBackSpec)

/-- ITS FALSE NEIGHBOUR: 'it returns false'. Refute it at one input. -/
def ipBackWrong : ChangeSpec := { name := "ipBack", fn := fun _ => fun
  | [d1, d2, d3] => { results := [.lit (.bool false)], args := [d1, d2, d3] }
  | _ => none }
def IpBackWrongFalsely : Prop := ipBackRow.holds Try.pinned (OpenSpec.ofChange ipBackWrong)

/-- 'porterlaw04.IpSame': WHATEVER THE INPUT: true; the input reads as it did. -/
def ipSameSpec : ChangeSpec := { name := "ipSame", fn := fun _ => fun
  | [d] => { results := [.lit (.bool true)], args := [d] }
  | _ => none }
def ipSameRow : OpenClaim := { program := "ytfiokjenfmpmlaa", sum := "44b788dbb31761023eb336db6318705a1a79e31a7235c4d5a832e98f20c0e451", func := "porter/porterlaw04.IpSame", spec := "ipSame", inPlace := ["internal/abi.NoEscape", "internal/bytealg.MakeNoZero"], apart := false }
def IpSameSaid : Prop := ipSameRow.holds Try.pinned (OpenSpec.ofChange ipSameSpec)

/-- ITS FALSE NEIGHBOUR: 'it returns false'. Refute it at one input. -/
def ipSameWrong : ChangeSpec := { name := "ipSame", fn := fun _ => fun
  | [d] => { results := [.lit (.bool false)], args := [d] }
  | _ => none }
def IpSameWrongFalsely : Prop := ipSameRow.holds Try.pinned (OpenSpec.ofChange ipSameWrong)

/-- 'porterlaw04.IpSpoilt': WHATEVER THE INPUT: true; the input reads as it did. -/
def ipSpoiltSpec : ChangeSpec := { name := "ipSpoilt", fn := fun _ => fun
  | [d1, d2, d3] => { results := [.lit (.bool true)], args := [d1, d2, d3] }
  | _ => none }
def ipSpoiltRow : OpenClaim := { program := "ytfiokjenfmpmlaa", sum := "44b788dbb31761023eb336db6318705a1a79e31a7235c4d5a832e98f20c0e451", func := "porter/porterlaw04.IpSpoilt", spec := "ipSpoilt", inPlace := ["internal/abi.NoEscape", "internal/bytealg.MakeNoZero"], apart := false }
def IpSpoiltSaid : Prop := ipSpoiltRow.holds Try.pinned (OpenSpec.ofChange ipSpoiltSpec)

/-- ITS FALSE NEIGHBOUR: 'it returns false'. Refute it at one input. -/
def ipSpoiltWrong : ChangeSpec := { name := "ipSpoilt", fn := fun _ => fun
  | [d1, d2, d3] => { results := [.lit (.bool false)], args := [d1, d2, d3] }
  | _ => none }
def IpSpoiltWrongFalsely : Prop := ipSpoiltRow.holds Try.pinned (OpenSpec.ofChange ipSpoiltWrong)

/- THE SECOND FORM. 'bulk': how many values and letters a reading holds, each counted each time it is reached (what is shared counts as often as it is met; a slice's spare places count too). A statement '..UptoSaid' is the law's where the arguments, and the package variables that the reading takes, are together of bulk at most 1048576: NARROWER than '..Said'. Prove '..Said' where nothing that the law and all that it calls make is longer than what came in: it says more and counts as full. Else prove '..UptoSaid'. A law counts once. -/
mutual
def uptoBulk {H : Type} : DataW H → Nat
  | .lit (.string bytes) => bytes.length + 1
  | .lit _ => 1
  | .nil => 1
  | .ptr d => uptoBulk d + 1
  | .slice elems spare => uptoBulkAll elems + uptoBulkAll spare + 1
  | .agg parts => uptoBulkAll parts + 1
  | .iface _ d => uptoBulk d + 1
  | .map entries => uptoBulkEntries entries + 1
  | .held _ => 1
def uptoBulkAll {H : Type} : List (DataW H) → Nat
  | [] => 0
  | d :: r => uptoBulk d + uptoBulkAll r
def uptoBulkEntries {H : Type} : List (Lit × DataW H) → Nat
  | [] => 0
  | x :: r => uptoBulkEntry x + uptoBulkEntries r
def uptoBulkEntry {H : Type} : Lit × DataW H → Nat
  | (.string bytes, d) => bytes.length + uptoBulk d + 1
  | (_, d) => uptoBulk d + 1
 end
def uptoSmall : (H : Type) → List (DataW H) → Bool := fun _ ds => decide (uptoBulkAll ds ≤ 1048576)
def OpenSpec.upto (s : _root_.Go.ChangeSpec) : _root_.Go.OpenSpec := { _root_.Go.OpenSpec.ofChange s with cond := some uptoSmall }

/-- 'porterlaw04.IpParse', WHERE WHAT IT READS IS OF BULK AT MOST 1048576: true; the input reads as it did. -/
def ipParseUptoRow : OpenClaim := { program := "ytfiokjenfmpmlaa", sum := "44b788dbb31761023eb336db6318705a1a79e31a7235c4d5a832e98f20c0e451", func := "porter/porterlaw04.IpParse", spec := "ipParse", inPlace := ["internal/abi.NoEscape", "internal/bytealg.MakeNoZero"], apart := false, narrowed := true }
def IpParseUptoSaid : Prop := ipParseUptoRow.holds Try.pinned (OpenSpec.upto ipParseSpec)

/-- 'porterlaw04.IpPut', WHERE WHAT IT READS IS OF BULK AT MOST 1048576: true; the input reads as it did. -/
def ipPutUptoRow : OpenClaim := { program := "ytfiokjenfmpmlaa", sum := "44b788dbb31761023eb336db6318705a1a79e31a7235c4d5a832e98f20c0e451", func := "porter/porterlaw04.IpPut", spec := "ipPut", inPlace := ["internal/abi.NoEscape", "internal/bytealg.MakeNoZero"], apart := false, narrowed := true }
def IpPutUptoSaid : Prop := ipPutUptoRow.holds Try.pinned (OpenSpec.upto ipPutSpec)

/-- 'porterlaw04.IpBack', WHERE WHAT IT READS IS OF BULK AT MOST 1048576: true; the input reads as it did. -/
def ipBackUptoRow : OpenClaim := { program := "ytfiokjenfmpmlaa", sum := "44b788dbb31761023eb336db6318705a1a79e31a7235c4d5a832e98f20c0e451", func := "porter/porterlaw04.IpBack", spec := "ipBack", inPlace := ["internal/abi.NoEscape", "internal/bytealg.MakeNoZero"], apart := false, narrowed := true }
def IpBackUptoSaid : Prop := ipBackUptoRow.holds Try.pinned (OpenSpec.upto ipBackSpec)

/-- 'porterlaw04.IpSame', WHERE WHAT IT READS IS OF BULK AT MOST 1048576: true; the input reads as it did. -/
def ipSameUptoRow : OpenClaim := { program := "ytfiokjenfmpmlaa", sum := "44b788dbb31761023eb336db6318705a1a79e31a7235c4d5a832e98f20c0e451", func := "porter/porterlaw04.IpSame", spec := "ipSame", inPlace := ["internal/abi.NoEscape", "internal/bytealg.MakeNoZero"], apart := false, narrowed := true }
def IpSameUptoSaid : Prop := ipSameUptoRow.holds Try.pinned (OpenSpec.upto ipSameSpec)

/-- 'porterlaw04.IpSpoilt', WHERE WHAT IT READS IS OF BULK AT MOST 1048576: true; the input reads as it did. -/
def ipSpoiltUptoRow : OpenClaim := { program := "ytfiokjenfmpmlaa", sum := "44b788dbb31761023eb336db6318705a1a79e31a7235c4d5a832e98f20c0e451", func := "porter/porterlaw04.IpSpoilt", spec := "ipSpoilt", inPlace := ["internal/abi.NoEscape", "internal/bytealg.MakeNoZero"], apart := false, narrowed := true }
def IpSpoiltUptoSaid : Prop := ipSpoiltUptoRow.holds Try.pinned (OpenSpec.upto ipSpoiltSpec)

end Rows
end Go.Proofs.Ytfiokjenfmpmlaa
