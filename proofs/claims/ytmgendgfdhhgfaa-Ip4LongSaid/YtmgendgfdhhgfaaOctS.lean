/-
  Set, Equal and the example of layer 1: what each call returns. Helper of the claims.
-/
import Derived.Test.YtmgendgfdhhgfaaRd
import Derived.Test.YtmgendgfdhhgfaaRef01
import Derived.Deep.RegionHeld3
import Derived.Deep.RegionLaw
namespace Go.Proofs.Ytmgendgfdhhgfaa
open Go.ChangeShapes Go.WideShapes Go.ChangeAt Go.RowKit
set_option linter.unusedSimpArgs false
set_option linter.unusedVariables false

theorem str_self (l : List Int) : ((strOfNums l).toList == (strOfNums l).toList) = true := by simp
end Go.Proofs.Ytmgendgfdhhgfaa
