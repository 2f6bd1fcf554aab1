/-
  What the statements' table, two and alive do.
-/
import Derived.Test.YthhlckdglifmeaaVn16
import Derived.Test.YthhlckdglifmeaaRegLP
namespace Go.Proofs.Ythhlckdglifmeaa
open Go.RowKit
set_option linter.unusedVariables false
set_option linter.unusedSimpArgs false
set_option synthInstance.maxHeartbeats 400000
set_option synthInstance.maxSize 4000

def logS : List UInt8 := [108, 111, 103]
end Go.Proofs.Ythhlckdglifmeaa
