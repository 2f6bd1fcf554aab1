/-
  The document's side of package pick: how much a level holds, by how much it is too full, the fullest one.
-/
import Derived.Test.YthhlckdglifmeaaVn6
import Derived.Test.YthhlckdglifmeaaVn7
import Derived.Test.YthhlckdglifmeaaVn15
import Derived.Test.YthhlckdglifmeaaMathPk
namespace Go.Proofs.Ythhlckdglifmeaa
open Go.RowKit
set_option linter.unusedVariables false
set_option linter.unusedSimpArgs false
set_option synthInstance.maxHeartbeats 400000
set_option synthInstance.maxSize 4000

theorem four_pk {V : Vrs} (h : chkV V = 0) : V.1.length = 4 := (mayV_iff.1 (chkV_ok.1 h).2).1
end Go.Proofs.Ythhlckdglifmeaa
