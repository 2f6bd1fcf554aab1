/-
  Boxes, and bytes that stand in the world of before, or in memory of one's own.
-/
import Derived.Test.YtdgjinfaopkalaaByK
namespace Go.Proofs.Ytdgjinfaopkalaa
open Go.RowKit
set_option linter.unusedVariables false
set_option linter.unusedSimpArgs false

def Bx (w : World) (p : Nat) (t : TypeId) (cs : Array Value) : Prop := w.heap[p]? = some (.cells cs t (0, 0))
end Go.Proofs.Ytdgjinfaopkalaa
