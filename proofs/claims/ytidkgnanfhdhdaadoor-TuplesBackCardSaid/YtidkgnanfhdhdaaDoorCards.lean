/-
  DERIVED. GIVEN WITH THE SEED: THE CARDS: each row of YtidkgnanfhdhdaaDoorRows.lean that lists a variable, with what it lists TIED to the program's text (the seventh form; the later family's looks); each row that meets fmt, with fmt's text TOLD by the authors' own Lean function (tested against real Go, not proved from fmt's source: count such statements apart). THE CARD IS WHAT COUNTS. Prove the row's statement (the work); the ties are given (YtidkgnanfhdhdaaDoorTie.lean); close each card by the builder's one call (the guide's Derived/Test/ToyasCard.lean, 'card_holds'). Laid BY PROGRAM, IN A SANDBOX (cutbox-door.mjs). By AI agents, Wed Nov 11 2026. No macro, syntax, notation, axiom, sorry.
-/
import Derived.Test.YtidkgnanfhdhdaaDoorRows
import GoSem.ClaimSeven
namespace Go.Proofs.YtidkgnanfhdhdaaDoor
namespace Rows

/-- THE TIED CARD OF 'porterlaw08.TuplesNone'. -/
def tuplesNoneCard : Claim7 := { stood := { row := tuplesNoneRow, standIns := [], harness := (true, "b7c6004f922a6871d03acdb05a04e520e7e49a3e6c0460d3c21b5d7a657f72b8"), looks := false }, kinds := [], alts := [], laidByText := true, laidKinds := [.data, .data, .data], laidTests := true, laidLooks := .later }
def TuplesNoneCardSaid : Prop := Claim7.holds Tryd.pinned (.plain (OpenSpec.ofChange tuplesNoneSpec)) tuplesNoneCard

/-- THE TIED CARD OF 'porterlaw08.TuplesBack'. -/
def tuplesBackCard : Claim7 := { stood := { row := tuplesBackRow, standIns := [], harness := (true, "b7c6004f922a6871d03acdb05a04e520e7e49a3e6c0460d3c21b5d7a657f72b8"), looks := false }, kinds := [], alts := [], laidByText := true, laidKinds := [.data, .data, .data], laidTests := true, laidLooks := .later }
def TuplesBackCardSaid : Prop := Claim7.holds Tryd.pinned (.plain (OpenSpec.ofChange tuplesBackSpec)) tuplesBackCard

/-- THE TIED CARD OF 'porterlaw08.TuplesForm'. -/
def tuplesFormCard : Claim7 := { stood := { row := tuplesFormRow, standIns := [], harness := (true, "b7c6004f922a6871d03acdb05a04e520e7e49a3e6c0460d3c21b5d7a657f72b8"), looks := false }, kinds := [], alts := [], laidByText := true, laidKinds := [.data, .data, .data], laidTests := true, laidLooks := .later }
def TuplesFormCardSaid : Prop := Claim7.holds Tryd.pinned (.plain (OpenSpec.ofChange tuplesFormSpec)) tuplesFormCard

/-- THE SECOND FORM's CARD OF 'porterlaw08.TuplesNone'. -/
def tuplesNoneUptoCard : Claim7 := { stood := { row := tuplesNoneUptoRow, standIns := [], harness := (true, "b7c6004f922a6871d03acdb05a04e520e7e49a3e6c0460d3c21b5d7a657f72b8"), looks := false }, kinds := [], alts := [], laidByText := true, laidKinds := [.data, .data, .data], laidTests := true, laidLooks := .later }
def TuplesNoneUptoCardSaid : Prop := Claim7.holds Tryd.pinned (.plain (OpenSpec.upto tuplesNoneSpec)) tuplesNoneUptoCard

/-- THE SECOND FORM's CARD OF 'porterlaw08.TuplesBack'. -/
def tuplesBackUptoCard : Claim7 := { stood := { row := tuplesBackUptoRow, standIns := [], harness := (true, "b7c6004f922a6871d03acdb05a04e520e7e49a3e6c0460d3c21b5d7a657f72b8"), looks := false }, kinds := [], alts := [], laidByText := true, laidKinds := [.data, .data, .data], laidTests := true, laidLooks := .later }
def TuplesBackUptoCardSaid : Prop := Claim7.holds Tryd.pinned (.plain (OpenSpec.upto tuplesBackSpec)) tuplesBackUptoCard

/-- THE SECOND FORM's CARD OF 'porterlaw08.TuplesForm'. -/
def tuplesFormUptoCard : Claim7 := { stood := { row := tuplesFormUptoRow, standIns := [], harness := (true, "b7c6004f922a6871d03acdb05a04e520e7e49a3e6c0460d3c21b5d7a657f72b8"), looks := false }, kinds := [], alts := [], laidByText := true, laidKinds := [.data, .data, .data], laidTests := true, laidLooks := .later }
def TuplesFormUptoCardSaid : Prop := Claim7.holds Tryd.pinned (.plain (OpenSpec.upto tuplesFormSpec)) tuplesFormUptoCard
end Rows
end Go.Proofs.YtidkgnanfhdhdaaDoor
