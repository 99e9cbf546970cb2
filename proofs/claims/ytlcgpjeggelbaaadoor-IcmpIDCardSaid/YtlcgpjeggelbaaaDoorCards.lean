/-
  DERIVED. GIVEN WITH THE SEED: THE CARDS: each row of YtlcgpjeggelbaaaDoorRows.lean that lists a variable, with what it lists TIED to the program's text (the seventh form; the later family's looks); each row that meets fmt, with fmt's text TOLD by the authors' own Lean function (tested against real Go, not proved from fmt's source: count such statements apart). THE CARD IS WHAT COUNTS. Prove the row's statement (the work); the ties are given (YtlcgpjeggelbaaaDoorTie.lean); close each card by the builder's one call (the guide's Derived/Test/ToyasCard.lean, 'card_holds'). Laid BY PROGRAM, IN A SANDBOX (cutbox-door.mjs). By AI agents, Wed Nov 11 2026. No macro, syntax, notation, axiom, sorry.
-/
import Derived.Test.YtlcgpjeggelbaaaDoorRows
import GoSem.ClaimSeven
namespace Go.Proofs.YtlcgpjeggelbaaaDoor
namespace Rows

/-- THE TIED CARD OF 'porterlaw07.IcmpID'. -/
def icmpIDCard : Claim7 := { stood := { row := icmpIDRow, standIns := [], harness := (true, "b6b0308c3b4260940cfb7ecb2eb39e7dfd1b205d54184868720f3c86f13bfd45"), looks := false }, kinds := [], alts := [], laidByText := true, laidKinds := [.data, .pinned], laidTests := true, laidLooks := .later }
def IcmpIDCardSaid : Prop := Claim7.holds Tryd.pinned (.plain (OpenSpec.ofChange icmpIDSpec)) icmpIDCard

/-- THE SECOND FORM's CARD OF 'porterlaw07.IcmpID'. -/
def icmpIDUptoCard : Claim7 := { stood := { row := icmpIDUptoRow, standIns := [], harness := (true, "b6b0308c3b4260940cfb7ecb2eb39e7dfd1b205d54184868720f3c86f13bfd45"), looks := false }, kinds := [], alts := [], laidByText := true, laidKinds := [.data, .pinned], laidTests := true, laidLooks := .later }
def IcmpIDUptoCardSaid : Prop := Claim7.holds Tryd.pinned (.plain (OpenSpec.upto icmpIDSpec)) icmpIDUptoCard
end Rows
end Go.Proofs.YtlcgpjeggelbaaaDoor
