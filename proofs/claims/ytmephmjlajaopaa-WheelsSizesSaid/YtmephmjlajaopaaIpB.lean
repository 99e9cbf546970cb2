/- Contracts of the document's answers for layer 4: Put. -/
import Derived.Test.YtmephmjlajaopaaIpA
import Derived.Test.YtmephmjlajaopaaSumsLaid
namespace Go.Proofs.Ytmephmjlajaopaa
set_option linter.unusedVariables false
set_option linter.unusedSimpArgs false
open Go.ChangeShapes Go.WideShapes Go.ChangeAt Go.RowKit Go.PlainAid
theorem hdrB_size (a id : Int) (fl : Bool) (tt pr sr ds : Int) (o : ByteArray) (size sum : Int) : (hdrB a id fl tt pr sr ds o size sum).size = 20 + o.size := by
  unfold hdrB
  rw [ByteArray.size_append, size_W]
  rfl
/-- Why a packet can't be put; 0: it can. -/
def putE (n m : Nat) : Int := if 40 < n ∨ ¬ n % 4 = 0 then 2 else if 2028 < n + m then 4 else 0
/-- A header with its sum. -/
def hdrS (a id : Int) (fl : Bool) (tt pr sr ds : Int) (o : ByteArray) (size : Int) : ByteArray := hdrB a id fl tt pr sr ds o size (sumV [hdrB a id fl tt pr sr ds o size 0])
def putB (a id : Int) (fl : Bool) (tt pr sr ds : Int) (o p : ByteArray) : ByteArray :=
  if putE o.size p.size = 0 then hdrS a id fl tt pr sr ds o (20 + (o.size : Int) + (p.size : Int)) ++ p else ⟨#[]⟩
end Go.Proofs.Ytmephmjlajaopaa
