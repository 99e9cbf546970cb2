/-
  DERIVED. GIVEN WITH THE SEED: THE CARDS: each row of YtaaobacmlaaajaaDoorRows.lean that lists a variable, with what it lists TIED to the program's text (the seventh form; the later family's looks); each row that meets fmt, with fmt's text TOLD by the authors' own Lean function (tested against real Go, not proved from fmt's source: count such statements apart). THE CARD IS WHAT COUNTS. Prove the row's statement (the work); the ties are given (YtaaobacmlaaajaaDoorTie.lean); close each card by the builder's one call (the guide's Derived/Test/ToyasCard.lean, 'card_holds'). Laid BY PROGRAM, IN A SANDBOX (cutbox-door.mjs). By AI agents, Wed Nov 11 2026. No macro, syntax, notation, axiom, sorry.
-/
import Derived.Test.YtaaobacmlaaajaaDoorRows
import GoSem.ClaimSeven
namespace Go.Proofs.YtaaobacmlaaajaaDoor
namespace Rows

/-- THE TIED CARD OF 'porterlaw03.AddrsTell'. -/
def addrsTellCard : Claim7 := { stood := { row := addrsTellRow, standIns := [], harness := (true, "03b5fc8a5e3a3e899fa8dc536466ad5955f94e230d5e6f98eeddbc0bdc5b6274"), looks := false }, kinds := [], alts := [], laidByText := true, laidKinds := [.data, .data, .data], laidTests := true, laidLooks := .later }
def AddrsTellCardSaid : Prop := Claim7.holds Tryd.pinned (.plain (OpenSpec.ofChange addrsTellSpec)) addrsTellCard

/-- THE TIED CARD OF 'porterlaw03.AddrsBack'. -/
def addrsBackCard : Claim7 := { stood := { row := addrsBackRow, standIns := [], harness := (true, "03b5fc8a5e3a3e899fa8dc536466ad5955f94e230d5e6f98eeddbc0bdc5b6274"), looks := false }, kinds := [], alts := [], laidByText := true, laidKinds := [.data, .data, .data], laidTests := true, laidLooks := .later }
def AddrsBackCardSaid : Prop := Claim7.holds Tryd.pinned (.plain (OpenSpec.ofChange addrsBackSpec)) addrsBackCard

/-- THE TIED CARD OF 'porterlaw03.AddrsForm'. -/
def addrsFormCard : Claim7 := { stood := { row := addrsFormRow, standIns := [], harness := (true, "03b5fc8a5e3a3e899fa8dc536466ad5955f94e230d5e6f98eeddbc0bdc5b6274"), looks := false }, kinds := [], alts := [], laidByText := true, laidKinds := [.data, .data, .data], laidTests := true, laidLooks := .later }
def AddrsFormCardSaid : Prop := Claim7.holds Tryd.pinned (.plain (OpenSpec.ofChange addrsFormSpec)) addrsFormCard

/-- THE SECOND FORM's CARD OF 'porterlaw03.AddrsTell'. -/
def addrsTellUptoCard : Claim7 := { stood := { row := addrsTellUptoRow, standIns := [], harness := (true, "03b5fc8a5e3a3e899fa8dc536466ad5955f94e230d5e6f98eeddbc0bdc5b6274"), looks := false }, kinds := [], alts := [], laidByText := true, laidKinds := [.data, .data, .data], laidTests := true, laidLooks := .later }
def AddrsTellUptoCardSaid : Prop := Claim7.holds Tryd.pinned (.plain (OpenSpec.upto addrsTellSpec)) addrsTellUptoCard

/-- THE SECOND FORM's CARD OF 'porterlaw03.AddrsBack'. -/
def addrsBackUptoCard : Claim7 := { stood := { row := addrsBackUptoRow, standIns := [], harness := (true, "03b5fc8a5e3a3e899fa8dc536466ad5955f94e230d5e6f98eeddbc0bdc5b6274"), looks := false }, kinds := [], alts := [], laidByText := true, laidKinds := [.data, .data, .data], laidTests := true, laidLooks := .later }
def AddrsBackUptoCardSaid : Prop := Claim7.holds Tryd.pinned (.plain (OpenSpec.upto addrsBackSpec)) addrsBackUptoCard

/-- THE SECOND FORM's CARD OF 'porterlaw03.AddrsForm'. -/
def addrsFormUptoCard : Claim7 := { stood := { row := addrsFormUptoRow, standIns := [], harness := (true, "03b5fc8a5e3a3e899fa8dc536466ad5955f94e230d5e6f98eeddbc0bdc5b6274"), looks := false }, kinds := [], alts := [], laidByText := true, laidKinds := [.data, .data, .data], laidTests := true, laidLooks := .later }
def AddrsFormUptoCardSaid : Prop := Claim7.holds Tryd.pinned (.plain (OpenSpec.upto addrsFormSpec)) addrsFormUptoCard
end Rows
end Go.Proofs.YtaaobacmlaaajaaDoor
