/-
  Rows of records that are made whole, and written record by record. No program is named here but for entries.
-/
import Derived.Test.YtmamkkopbegjaaaSlK
import Derived.OwnWalk
namespace Go.Proofs.Ytmamkkopbegjaaa
open Go.RowKit
set_option linter.unusedVariables false
set_option linter.unusedSimpArgs false

def zeroN : Ent := ([], 0, false, [])
end Go.Proofs.Ytmamkkopbegjaaa
