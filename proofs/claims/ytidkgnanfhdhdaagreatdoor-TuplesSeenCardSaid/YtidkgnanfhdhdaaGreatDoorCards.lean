/-
  DERIVED. GIVEN WITH THE SEED: THE CARDS: each row of YtidkgnanfhdhdaaGreatDoorRows.lean that lists a variable, with what it lists TIED to the program's text (the seventh form; the later family's looks); each row that meets fmt, with fmt's text TOLD by the authors' own Lean function (tested against real Go, not proved from fmt's source: count such statements apart). THE CARD IS WHAT COUNTS. Prove the row's statement (the work); the ties are given (YtidkgnanfhdhdaaGreatDoorTie.lean); close each card by the builder's one call (the guide's Derived/Test/ToyasCard.lean, 'card_holds'). Laid BY PROGRAM, IN A SANDBOX (cutbox-door.mjs). By AI agents, Wed Nov 11 2026. No macro, syntax, notation, axiom, sorry.
-/
import Derived.Test.YtidkgnanfhdhdaaGreatDoorRows
import GoSem.ClaimSeven
namespace Go.Proofs.YtidkgnanfhdhdaaGreatDoor
namespace Rows

/-- THE TIED CARD OF 'porterlaw08.TuplesOf'. -/
def tuplesOfCard : Claim7 := { stood := { row := tuplesOfRow, standIns := [], harness := (true, "5254295746a6e9b48566860c9afe0ac469f51005058a7131287790fe33d8f5f0"), looks := false }, kinds := [], alts := [], laidByText := true, laidKinds := [.data, .data, .data], laidTests := true, laidLooks := .later }
def TuplesOfCardSaid : Prop := Claim7.holds Tryz.pinned (.plain (OpenSpec.ofChange tuplesOfSpec)) tuplesOfCard

/-- THE TIED CARD OF 'porterlaw08.TuplesTell'. -/
def tuplesTellCard : Claim7 := { stood := { row := tuplesTellRow, standIns := [], harness := (true, "5254295746a6e9b48566860c9afe0ac469f51005058a7131287790fe33d8f5f0"), looks := false }, kinds := [], alts := [], laidByText := true, laidKinds := [.data, .data, .data], laidTests := true, laidLooks := .later }
def TuplesTellCardSaid : Prop := Claim7.holds Tryz.pinned (.plain (OpenSpec.ofChange tuplesTellSpec)) tuplesTellCard

/-- THE TIED CARD OF 'porterlaw08.TuplesSeen'. -/
def tuplesSeenCard : Claim7 := { stood := { row := tuplesSeenRow, standIns := [], harness := (true, "5254295746a6e9b48566860c9afe0ac469f51005058a7131287790fe33d8f5f0"), looks := false }, kinds := [], alts := [], laidByText := true, laidKinds := [.data, .data, .data], laidTests := true, laidLooks := .later }
def TuplesSeenCardSaid : Prop := Claim7.holds Tryz.pinned (.plain (OpenSpec.ofChange tuplesSeenSpec)) tuplesSeenCard

/-- THE SECOND FORM's CARD OF 'porterlaw08.TuplesOf'. -/
def tuplesOfUptoCard : Claim7 := { stood := { row := tuplesOfUptoRow, standIns := [], harness := (true, "5254295746a6e9b48566860c9afe0ac469f51005058a7131287790fe33d8f5f0"), looks := false }, kinds := [], alts := [], laidByText := true, laidKinds := [.data, .data, .data], laidTests := true, laidLooks := .later }
def TuplesOfUptoCardSaid : Prop := Claim7.holds Tryz.pinned (.plain (OpenSpec.upto tuplesOfSpec)) tuplesOfUptoCard

/-- THE SECOND FORM's CARD OF 'porterlaw08.TuplesTell'. -/
def tuplesTellUptoCard : Claim7 := { stood := { row := tuplesTellUptoRow, standIns := [], harness := (true, "5254295746a6e9b48566860c9afe0ac469f51005058a7131287790fe33d8f5f0"), looks := false }, kinds := [], alts := [], laidByText := true, laidKinds := [.data, .data, .data], laidTests := true, laidLooks := .later }
def TuplesTellUptoCardSaid : Prop := Claim7.holds Tryz.pinned (.plain (OpenSpec.upto tuplesTellSpec)) tuplesTellUptoCard

/-- THE SECOND FORM's CARD OF 'porterlaw08.TuplesSeen'. -/
def tuplesSeenUptoCard : Claim7 := { stood := { row := tuplesSeenUptoRow, standIns := [], harness := (true, "5254295746a6e9b48566860c9afe0ac469f51005058a7131287790fe33d8f5f0"), looks := false }, kinds := [], alts := [], laidByText := true, laidKinds := [.data, .data, .data], laidTests := true, laidLooks := .later }
def TuplesSeenUptoCardSaid : Prop := Claim7.holds Tryz.pinned (.plain (OpenSpec.upto tuplesSeenSpec)) tuplesSeenUptoCard
end Rows
end Go.Proofs.YtidkgnanfhdhdaaGreatDoor
