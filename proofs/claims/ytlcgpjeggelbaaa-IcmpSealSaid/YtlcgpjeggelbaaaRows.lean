/-
  No cell of these rows narrows 'for every input' (looked for: loops, veiled, ifaces, maps, wideKeys, modest, calm, conditions, laid).
  DERIVED. THE GIVEN ROWS OF THIS SEAT. 4 by the template 'for every input the law returns true; each argument reads behind the call as it read before'; 0 by the template 'total and deterministic' (their statements: YtlcgpjeggelbaaaTotals.lean).
  GIVEN WITH THE SEED: the statements are not yours to turn. If you find one false, say at which input.
  Laid BY PROGRAM, IN A SANDBOX (cutbox-rows.mjs): the forced cells as the released guide's own fill.sh prints them over the translation c01507cb0189c80a… (all of the seat's roots in one cut). By AI agents, Wed Nov 11 2026. No macro, syntax, notation, axiom, sorry.
-/
import Derived.Test.YtlcgpjeggelbaaaChecked
import GoSem.Claim
import GoSem.ClaimJoined
import GoSem.ClaimMapViews
import Derived.JoinedTies
import Derived.KernelRfl
namespace Go.Proofs.Ytlcgpjeggelbaaa
/- THE CELL 'sum', in the pinned program and in every row, IS THE sha256 OF THE DUMP (.gsa) THAT YtlcgpjeggelbaaaProg.lean LOADS. Nothing in Lean hashes anything: it is a label: what it is worth is what the hold of that sum in a sandbox is worth. -/
noncomputable def Try.pinned : Pinned := { name := "ytlcgpjeggelbaaa", sum := "c01507cb0189c80a4244aadcaa125f01ccf9cbd6b80186e4423cf32df78fe866", checked := Try.checked }
namespace Rows
def none {H : Type} : Left H := { results := [], args := [] }

/-- 'porterlaw07.IcmpTell': WHATEVER THE INPUT: true; the input reads as it did. -/
def icmpTellSpec : ChangeSpec := { name := "icmpTell", fn := fun _ => fun
  | [d1, d2, d3] => { results := [.lit (.bool true)], args := [d1, d2, d3] }
  | _ => none }
def icmpTellRow : OpenClaim := { program := "ytlcgpjeggelbaaa", sum := "c01507cb0189c80a4244aadcaa125f01ccf9cbd6b80186e4423cf32df78fe866", func := "porter/porterlaw07.IcmpTell", spec := "icmpTell", apart := false }
def IcmpTellSaid : Prop := icmpTellRow.holds Try.pinned (OpenSpec.ofChange icmpTellSpec)

/-- ITS FALSE NEIGHBOUR: 'it returns false'. Refute it at one input. -/
def icmpTellWrong : ChangeSpec := { name := "icmpTell", fn := fun _ => fun
  | [d1, d2, d3] => { results := [.lit (.bool false)], args := [d1, d2, d3] }
  | _ => none }
def IcmpTellWrongFalsely : Prop := icmpTellRow.holds Try.pinned (OpenSpec.ofChange icmpTellWrong)

/-- 'porterlaw07.IcmpSums': WHATEVER THE INPUT: true; the input reads as it did. -/
def icmpSumsSpec : ChangeSpec := { name := "icmpSums", fn := fun _ => fun
  | [d] => { results := [.lit (.bool true)], args := [d] }
  | _ => none }
def icmpSumsRow : OpenClaim := { program := "ytlcgpjeggelbaaa", sum := "c01507cb0189c80a4244aadcaa125f01ccf9cbd6b80186e4423cf32df78fe866", func := "porter/porterlaw07.IcmpSums", spec := "icmpSums", apart := false }
def IcmpSumsSaid : Prop := icmpSumsRow.holds Try.pinned (OpenSpec.ofChange icmpSumsSpec)

/-- ITS FALSE NEIGHBOUR: 'it returns false'. Refute it at one input. -/
def icmpSumsWrong : ChangeSpec := { name := "icmpSums", fn := fun _ => fun
  | [d] => { results := [.lit (.bool false)], args := [d] }
  | _ => none }
def IcmpSumsWrongFalsely : Prop := icmpSumsRow.holds Try.pinned (OpenSpec.ofChange icmpSumsWrong)

/-- 'porterlaw07.IcmpBack': WHATEVER THE INPUT: true; the input reads as it did. -/
def icmpBackSpec : ChangeSpec := { name := "icmpBack", fn := fun _ => fun
  | [d1, d2, d3] => { results := [.lit (.bool true)], args := [d1, d2, d3] }
  | _ => none }
def icmpBackRow : OpenClaim := { program := "ytlcgpjeggelbaaa", sum := "c01507cb0189c80a4244aadcaa125f01ccf9cbd6b80186e4423cf32df78fe866", func := "porter/porterlaw07.IcmpBack", spec := "icmpBack", apart := false }
def IcmpBackSaid : Prop := icmpBackRow.holds Try.pinned (OpenSpec.ofChange icmpBackSpec)

/-- ITS FALSE NEIGHBOUR: 'it returns false'. Refute it at one input. -/
def icmpBackWrong : ChangeSpec := { name := "icmpBack", fn := fun _ => fun
  | [d1, d2, d3] => { results := [.lit (.bool false)], args := [d1, d2, d3] }
  | _ => none }
def IcmpBackWrongFalsely : Prop := icmpBackRow.holds Try.pinned (OpenSpec.ofChange icmpBackWrong)

/-- 'porterlaw07.IcmpSeal': WHATEVER THE INPUT: true; the input reads as it did. -/
def icmpSealSpec : ChangeSpec := { name := "icmpSeal", fn := fun _ => fun
  | [d1, d2] => { results := [.lit (.bool true)], args := [d1, d2] }
  | _ => none }
def icmpSealRow : OpenClaim := { program := "ytlcgpjeggelbaaa", sum := "c01507cb0189c80a4244aadcaa125f01ccf9cbd6b80186e4423cf32df78fe866", func := "porter/porterlaw07.IcmpSeal", spec := "icmpSeal", apart := false }
def IcmpSealSaid : Prop := icmpSealRow.holds Try.pinned (OpenSpec.ofChange icmpSealSpec)

/-- ITS FALSE NEIGHBOUR: 'it returns false'. Refute it at one input. -/
def icmpSealWrong : ChangeSpec := { name := "icmpSeal", fn := fun _ => fun
  | [d1, d2] => { results := [.lit (.bool false)], args := [d1, d2] }
  | _ => none }
def IcmpSealWrongFalsely : Prop := icmpSealRow.holds Try.pinned (OpenSpec.ofChange icmpSealWrong)

/- THE SECOND FORM. 'bulk': how many values and letters a reading holds, each counted each time it is reached (what is shared counts as often as it is met; a slice's spare places count too). A statement '..UptoSaid' is the law's where the arguments, and the package variables that the reading takes, are together of bulk at most 1048576: NARROWER than '..Said'. Prove '..Said' where nothing that the law and all that it calls make is longer than what came in: it says more and counts as full. Else prove '..UptoSaid'. A law counts once. -/
mutual
def uptoBulk {H : Type} : DataW H → Nat
  | .lit (.string bytes) => bytes.length + 1
  | .lit _ => 1
  | .nil => 1
  | .ptr d => uptoBulk d + 1
  | .slice elems spare => uptoBulkAll elems + uptoBulkAll spare + 1
  | .agg parts => uptoBulkAll parts + 1
  | .iface _ d => uptoBulk d + 1
  | .map entries => uptoBulkEntries entries + 1
  | .held _ => 1
def uptoBulkAll {H : Type} : List (DataW H) → Nat
  | [] => 0
  | d :: r => uptoBulk d + uptoBulkAll r
def uptoBulkEntries {H : Type} : List (Lit × DataW H) → Nat
  | [] => 0
  | x :: r => uptoBulkEntry x + uptoBulkEntries r
def uptoBulkEntry {H : Type} : Lit × DataW H → Nat
  | (.string bytes, d) => bytes.length + uptoBulk d + 1
  | (_, d) => uptoBulk d + 1
 end
def uptoSmall : (H : Type) → List (DataW H) → Bool := fun _ ds => decide (uptoBulkAll ds ≤ 1048576)
def OpenSpec.upto (s : _root_.Go.ChangeSpec) : _root_.Go.OpenSpec := { _root_.Go.OpenSpec.ofChange s with cond := some uptoSmall }

/-- 'porterlaw07.IcmpTell', WHERE WHAT IT READS IS OF BULK AT MOST 1048576: true; the input reads as it did. -/
def icmpTellUptoRow : OpenClaim := { program := "ytlcgpjeggelbaaa", sum := "c01507cb0189c80a4244aadcaa125f01ccf9cbd6b80186e4423cf32df78fe866", func := "porter/porterlaw07.IcmpTell", spec := "icmpTell", apart := false, narrowed := true }
def IcmpTellUptoSaid : Prop := icmpTellUptoRow.holds Try.pinned (OpenSpec.upto icmpTellSpec)

/-- 'porterlaw07.IcmpSums', WHERE WHAT IT READS IS OF BULK AT MOST 1048576: true; the input reads as it did. -/
def icmpSumsUptoRow : OpenClaim := { program := "ytlcgpjeggelbaaa", sum := "c01507cb0189c80a4244aadcaa125f01ccf9cbd6b80186e4423cf32df78fe866", func := "porter/porterlaw07.IcmpSums", spec := "icmpSums", apart := false, narrowed := true }
def IcmpSumsUptoSaid : Prop := icmpSumsUptoRow.holds Try.pinned (OpenSpec.upto icmpSumsSpec)

/-- 'porterlaw07.IcmpBack', WHERE WHAT IT READS IS OF BULK AT MOST 1048576: true; the input reads as it did. -/
def icmpBackUptoRow : OpenClaim := { program := "ytlcgpjeggelbaaa", sum := "c01507cb0189c80a4244aadcaa125f01ccf9cbd6b80186e4423cf32df78fe866", func := "porter/porterlaw07.IcmpBack", spec := "icmpBack", apart := false, narrowed := true }
def IcmpBackUptoSaid : Prop := icmpBackUptoRow.holds Try.pinned (OpenSpec.upto icmpBackSpec)

/-- 'porterlaw07.IcmpSeal', WHERE WHAT IT READS IS OF BULK AT MOST 1048576: true; the input reads as it did. -/
def icmpSealUptoRow : OpenClaim := { program := "ytlcgpjeggelbaaa", sum := "c01507cb0189c80a4244aadcaa125f01ccf9cbd6b80186e4423cf32df78fe866", func := "porter/porterlaw07.IcmpSeal", spec := "icmpSeal", apart := false, narrowed := true }
def IcmpSealUptoSaid : Prop := icmpSealUptoRow.holds Try.pinned (OpenSpec.upto icmpSealSpec)

end Rows
end Go.Proofs.Ytlcgpjeggelbaaa
