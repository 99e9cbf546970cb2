/- Contracts of the document's answers for layer 1: Put16, Put32, Word. -/
import Derived.Test.YtmephmjlajaopaaFieldsC
namespace Go.Proofs.Ytmephmjlajaopaa
open Go.ChangeShapes Go.WideShapes Go.ChangeAt Go.RowKit Go.PlainAid

theorem strOfNums_append (a b : List Int) : strOfNums a ++ strOfNums b = strOfNums (a ++ b) := by
  apply ByteArray.ext
  simp [strOfNums]
theorem wordL_append (a b : List Int) : wordL (a ++ b) = wordL a ++ wordL b := by simp [wordL]

end Go.Proofs.Ytmephmjlajaopaa
