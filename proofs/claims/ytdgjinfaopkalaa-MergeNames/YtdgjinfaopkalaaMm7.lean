/-
  What mem.Get and mem.Range do.
-/
import Derived.Test.YtdgjinfaopkalaaMm1
import Derived.Test.YtdgjinfaopkalaaRegT
import Derived.Lib.AppendZerosOnto
import Derived.Lib.Overlaps
import Derived.Lib.SliceRun
import Derived.Test.YtdgjinfaopkalaaEnK
namespace Go.Proofs.Ytdgjinfaopkalaa
open Go.RowKit
set_option linter.unusedVariables false
set_option linter.unusedSimpArgs false

theorem eqB_bs (s t : List UInt8) : ((bs s).toList == (bs t).toList) = decide (s = t) := by
  rw [ByteArray.toList_eq, ByteArray.toList_eq, bs_toList, bs_toList, Bool.eq_iff_iff]; simp

end Go.Proofs.Ytdgjinfaopkalaa
