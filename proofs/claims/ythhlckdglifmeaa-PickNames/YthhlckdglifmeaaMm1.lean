/-
  What mem.mayBe and the library's comparisons do.
-/
import Derived.Test.YthhlckdglifmeaaBxK
import Derived.OwnWalk
import Derived.Test.YthhlckdglifmeaaMathMm
namespace Go.Proofs.Ythhlckdglifmeaa
open Go.RowKit
set_option linter.unusedVariables false
set_option linter.unusedSimpArgs false

theorem lt_bs (s t : List UInt8) : Op.bytesLess (bs s).toList (bs t).toList = ltS s t := by
  rw [ByteArray.toList_eq, ByteArray.toList_eq, bs_toList, bs_toList]; rfl

end Go.Proofs.Ythhlckdglifmeaa
