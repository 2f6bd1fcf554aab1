/-
  What the statement MemApplies answers.
-/
import Derived.Test.YtoedfbceapfimaaMn5
import Derived.Test.YtoedfbceapfimaaMn2
namespace Go.Proofs.Ytoedfbceapfimaa
open Go.RowKit
set_option linter.unusedVariables false
set_option linter.unusedSimpArgs false
def CarB (w wx : World) : Prop := Below w.heap.size w wx
theorem CarB.carry {w wx wy : World} (h : CarB w wx) (hb : Below wx.heap.size wx wy) : CarB w wy := Below.trans h (hb.mono (Below.size h))

end Go.Proofs.Ytoedfbceapfimaa
