/-
  What Swap does.
-/
import Derived.Test.YtepfojlclgnicaaVn9
import Derived.Lib.AppendZerosOnto
import Derived.Lib.Overlaps
namespace Go.Proofs.Ytepfojlclgnicaa
open Go.RowKit
set_option linter.unusedVariables false
set_option linter.unusedSimpArgs false

theorem lvV_at {R : Lvs} {nx sq : Int} {lg : List UInt8} {k : Nat} (hk : k < R.length) : lvV (lvs R, nx, sq, lg) k = (R[k]).2 := by
  unfold lvV
  simp [lvs, hk]
end Go.Proofs.Ytepfojlclgnicaa
