/-
  No cell of these rows narrows 'for every input' (looked for: loops, veiled, ifaces, maps, wideKeys, modest, calm, conditions, laid).
  DERIVED. THE GIVEN ROWS OF THIS SEAT. 5 by the template 'for every input the law returns true; each argument reads behind the call as it read before'; 0 by the template 'total and deterministic' (their statements: YtckcdmijhemchaaTotals.lean).
  GIVEN WITH THE SEED: the statements are not yours to turn. If you find one false, say at which input.
  Laid BY PROGRAM, IN A SANDBOX (cutbox-rows.mjs): the forced cells as the released guide's own fill.sh prints them over the translation 7e5119deb2d3b5d6… (all of the seat's roots in one cut). By AI agents, Wed Nov 11 2026. No macro, syntax, notation, axiom, sorry.
-/
import Derived.Test.YtckcdmijhemchaaChecked
import GoSem.Claim
import GoSem.ClaimJoined
import GoSem.ClaimMapViews
import Derived.JoinedTies
import Derived.KernelRfl
namespace Go.Proofs.Ytckcdmijhemchaa
/- THE CELL 'sum', in the pinned program and in every row, IS THE sha256 OF THE DUMP (.gsa) THAT YtckcdmijhemchaaProg.lean LOADS. Nothing in Lean hashes anything: it is a label: what it is worth is what the hold of that sum in a sandbox is worth. -/
noncomputable def Try.pinned : Pinned := { name := "ytckcdmijhemchaa", sum := "7e5119deb2d3b5d6893aa4e5838f611ad032fda41f2bc1021b640332836dc45c", checked := Try.checked }
namespace Rows
def none {H : Type} : Left H := { results := [], args := [] }

/-- 'porterlaw06.TcpTell': WHATEVER THE INPUT: true; the input reads as it did. -/
def tcpTellSpec : ChangeSpec := { name := "tcpTell", fn := fun _ => fun
  | [d1, d2, d3] => { results := [.lit (.bool true)], args := [d1, d2, d3] }
  | _ => none }
def tcpTellRow : OpenClaim := { program := "ytckcdmijhemchaa", sum := "7e5119deb2d3b5d6893aa4e5838f611ad032fda41f2bc1021b640332836dc45c", func := "porter/porterlaw06.TcpTell", spec := "tcpTell", inPlace := ["internal/abi.NoEscape", "internal/bytealg.MakeNoZero"], apart := false }
def TcpTellSaid : Prop := tcpTellRow.holds Try.pinned (OpenSpec.ofChange tcpTellSpec)

/-- ITS FALSE NEIGHBOUR: 'it returns false'. Refute it at one input. -/
def tcpTellWrong : ChangeSpec := { name := "tcpTell", fn := fun _ => fun
  | [d1, d2, d3] => { results := [.lit (.bool false)], args := [d1, d2, d3] }
  | _ => none }
def TcpTellWrongFalsely : Prop := tcpTellRow.holds Try.pinned (OpenSpec.ofChange tcpTellWrong)

/-- 'porterlaw06.TcpSums': WHATEVER THE INPUT: true; the input reads as it did. -/
def tcpSumsSpec : ChangeSpec := { name := "tcpSums", fn := fun _ => fun
  | [d1, d2, d3] => { results := [.lit (.bool true)], args := [d1, d2, d3] }
  | _ => none }
def tcpSumsRow : OpenClaim := { program := "ytckcdmijhemchaa", sum := "7e5119deb2d3b5d6893aa4e5838f611ad032fda41f2bc1021b640332836dc45c", func := "porter/porterlaw06.TcpSums", spec := "tcpSums", inPlace := ["internal/abi.NoEscape", "internal/bytealg.MakeNoZero"], apart := false }
def TcpSumsSaid : Prop := tcpSumsRow.holds Try.pinned (OpenSpec.ofChange tcpSumsSpec)

/-- ITS FALSE NEIGHBOUR: 'it returns false'. Refute it at one input. -/
def tcpSumsWrong : ChangeSpec := { name := "tcpSums", fn := fun _ => fun
  | [d1, d2, d3] => { results := [.lit (.bool false)], args := [d1, d2, d3] }
  | _ => none }
def TcpSumsWrongFalsely : Prop := tcpSumsRow.holds Try.pinned (OpenSpec.ofChange tcpSumsWrong)

/-- 'porterlaw06.TcpBack': WHATEVER THE INPUT: true; the input reads as it did. -/
def tcpBackSpec : ChangeSpec := { name := "tcpBack", fn := fun _ => fun
  | [d1, d2] => { results := [.lit (.bool true)], args := [d1, d2] }
  | _ => none }
def tcpBackRow : OpenClaim := { program := "ytckcdmijhemchaa", sum := "7e5119deb2d3b5d6893aa4e5838f611ad032fda41f2bc1021b640332836dc45c", func := "porter/porterlaw06.TcpBack", spec := "tcpBack", inPlace := ["internal/abi.NoEscape", "internal/bytealg.MakeNoZero"], apart := false }
def TcpBackSaid : Prop := tcpBackRow.holds Try.pinned (OpenSpec.ofChange tcpBackSpec)

/-- ITS FALSE NEIGHBOUR: 'it returns false'. Refute it at one input. -/
def tcpBackWrong : ChangeSpec := { name := "tcpBack", fn := fun _ => fun
  | [d1, d2] => { results := [.lit (.bool false)], args := [d1, d2] }
  | _ => none }
def TcpBackWrongFalsely : Prop := tcpBackRow.holds Try.pinned (OpenSpec.ofChange tcpBackWrong)

/-- 'porterlaw06.TcpSame': WHATEVER THE INPUT: true; the input reads as it did. -/
def tcpSameSpec : ChangeSpec := { name := "tcpSame", fn := fun _ => fun
  | [d] => { results := [.lit (.bool true)], args := [d] }
  | _ => none }
def tcpSameRow : OpenClaim := { program := "ytckcdmijhemchaa", sum := "7e5119deb2d3b5d6893aa4e5838f611ad032fda41f2bc1021b640332836dc45c", func := "porter/porterlaw06.TcpSame", spec := "tcpSame", inPlace := ["internal/abi.NoEscape", "internal/bytealg.MakeNoZero"], apart := false }
def TcpSameSaid : Prop := tcpSameRow.holds Try.pinned (OpenSpec.ofChange tcpSameSpec)

/-- ITS FALSE NEIGHBOUR: 'it returns false'. Refute it at one input. -/
def tcpSameWrong : ChangeSpec := { name := "tcpSame", fn := fun _ => fun
  | [d] => { results := [.lit (.bool false)], args := [d] }
  | _ => none }
def TcpSameWrongFalsely : Prop := tcpSameRow.holds Try.pinned (OpenSpec.ofChange tcpSameWrong)

/-- 'porterlaw06.TcpSeal': WHATEVER THE INPUT: true; the input reads as it did. -/
def tcpSealSpec : ChangeSpec := { name := "tcpSeal", fn := fun _ => fun
  | [d1, d2, d3] => { results := [.lit (.bool true)], args := [d1, d2, d3] }
  | _ => none }
def tcpSealRow : OpenClaim := { program := "ytckcdmijhemchaa", sum := "7e5119deb2d3b5d6893aa4e5838f611ad032fda41f2bc1021b640332836dc45c", func := "porter/porterlaw06.TcpSeal", spec := "tcpSeal", inPlace := ["internal/abi.NoEscape", "internal/bytealg.MakeNoZero"], apart := false }
def TcpSealSaid : Prop := tcpSealRow.holds Try.pinned (OpenSpec.ofChange tcpSealSpec)

/-- ITS FALSE NEIGHBOUR: 'it returns false'. Refute it at one input. -/
def tcpSealWrong : ChangeSpec := { name := "tcpSeal", fn := fun _ => fun
  | [d1, d2, d3] => { results := [.lit (.bool false)], args := [d1, d2, d3] }
  | _ => none }
def TcpSealWrongFalsely : Prop := tcpSealRow.holds Try.pinned (OpenSpec.ofChange tcpSealWrong)

/- THE SECOND FORM. 'bulk': how many values and letters a reading holds, each counted each time it is reached (what is shared counts as often as it is met; a slice's spare places count too). A statement '..UptoSaid' is the law's where the arguments, and the package variables that the reading takes, are together of bulk at most 1048576: NARROWER than '..Said'. Prove '..Said' where nothing that the law and all that it calls make is longer than what came in: it says more and counts as full. Else prove '..UptoSaid'. A law counts once. -/
mutual
def uptoBulk {H : Type} : DataW H → Nat
  | .lit (.string bytes) => bytes.length + 1
  | .lit _ => 1
  | .nil => 1
  | .ptr d => uptoBulk d + 1
  | .slice elems spare => uptoBulkAll elems + uptoBulkAll spare + 1
  | .agg parts => uptoBulkAll parts + 1
  | .iface _ d => uptoBulk d + 1
  | .map entries => uptoBulkEntries entries + 1
  | .held _ => 1
def uptoBulkAll {H : Type} : List (DataW H) → Nat
  | [] => 0
  | d :: r => uptoBulk d + uptoBulkAll r
def uptoBulkEntries {H : Type} : List (Lit × DataW H) → Nat
  | [] => 0
  | x :: r => uptoBulkEntry x + uptoBulkEntries r
def uptoBulkEntry {H : Type} : Lit × DataW H → Nat
  | (.string bytes, d) => bytes.length + uptoBulk d + 1
  | (_, d) => uptoBulk d + 1
 end
def uptoSmall : (H : Type) → List (DataW H) → Bool := fun _ ds => decide (uptoBulkAll ds ≤ 1048576)
def OpenSpec.upto (s : _root_.Go.ChangeSpec) : _root_.Go.OpenSpec := { _root_.Go.OpenSpec.ofChange s with cond := some uptoSmall }

/-- 'porterlaw06.TcpTell', WHERE WHAT IT READS IS OF BULK AT MOST 1048576: true; the input reads as it did. -/
def tcpTellUptoRow : OpenClaim := { program := "ytckcdmijhemchaa", sum := "7e5119deb2d3b5d6893aa4e5838f611ad032fda41f2bc1021b640332836dc45c", func := "porter/porterlaw06.TcpTell", spec := "tcpTell", inPlace := ["internal/abi.NoEscape", "internal/bytealg.MakeNoZero"], apart := false, narrowed := true }
def TcpTellUptoSaid : Prop := tcpTellUptoRow.holds Try.pinned (OpenSpec.upto tcpTellSpec)

/-- 'porterlaw06.TcpSums', WHERE WHAT IT READS IS OF BULK AT MOST 1048576: true; the input reads as it did. -/
def tcpSumsUptoRow : OpenClaim := { program := "ytckcdmijhemchaa", sum := "7e5119deb2d3b5d6893aa4e5838f611ad032fda41f2bc1021b640332836dc45c", func := "porter/porterlaw06.TcpSums", spec := "tcpSums", inPlace := ["internal/abi.NoEscape", "internal/bytealg.MakeNoZero"], apart := false, narrowed := true }
def TcpSumsUptoSaid : Prop := tcpSumsUptoRow.holds Try.pinned (OpenSpec.upto tcpSumsSpec)

/-- 'porterlaw06.TcpBack', WHERE WHAT IT READS IS OF BULK AT MOST 1048576: true; the input reads as it did. -/
def tcpBackUptoRow : OpenClaim := { program := "ytckcdmijhemchaa", sum := "7e5119deb2d3b5d6893aa4e5838f611ad032fda41f2bc1021b640332836dc45c", func := "porter/porterlaw06.TcpBack", spec := "tcpBack", inPlace := ["internal/abi.NoEscape", "internal/bytealg.MakeNoZero"], apart := false, narrowed := true }
def TcpBackUptoSaid : Prop := tcpBackUptoRow.holds Try.pinned (OpenSpec.upto tcpBackSpec)

/-- 'porterlaw06.TcpSame', WHERE WHAT IT READS IS OF BULK AT MOST 1048576: true; the input reads as it did. -/
def tcpSameUptoRow : OpenClaim := { program := "ytckcdmijhemchaa", sum := "7e5119deb2d3b5d6893aa4e5838f611ad032fda41f2bc1021b640332836dc45c", func := "porter/porterlaw06.TcpSame", spec := "tcpSame", inPlace := ["internal/abi.NoEscape", "internal/bytealg.MakeNoZero"], apart := false, narrowed := true }
def TcpSameUptoSaid : Prop := tcpSameUptoRow.holds Try.pinned (OpenSpec.upto tcpSameSpec)

/-- 'porterlaw06.TcpSeal', WHERE WHAT IT READS IS OF BULK AT MOST 1048576: true; the input reads as it did. -/
def tcpSealUptoRow : OpenClaim := { program := "ytckcdmijhemchaa", sum := "7e5119deb2d3b5d6893aa4e5838f611ad032fda41f2bc1021b640332836dc45c", func := "porter/porterlaw06.TcpSeal", spec := "tcpSeal", inPlace := ["internal/abi.NoEscape", "internal/bytealg.MakeNoZero"], apart := false, narrowed := true }
def TcpSealUptoSaid : Prop := tcpSealUptoRow.holds Try.pinned (OpenSpec.upto tcpSealSpec)

end Rows
end Go.Proofs.Ytckcdmijhemchaa
