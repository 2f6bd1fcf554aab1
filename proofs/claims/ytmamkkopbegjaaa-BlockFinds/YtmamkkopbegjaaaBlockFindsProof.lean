/-
  The statement BlockFinds holds for every input: what stands under a key is found as the document says. No condition.
-/
import Derived.Test.YtmamkkopbegjaaaRows
import Derived.Test.YtmamkkopbegjaaaBr5
import Derived.Test.YtmamkkopbegjaaaBl3
import Derived.Test.YtmamkkopbegjaaaOpenBt
import Derived.WalkKit
import Derived.ProofKit
import Derived.OpenShut
import Derived.ShutString
import Derived.ChangeOld
import Derived.Below
namespace Go.Proofs.Ytmamkkopbegjaaa.blockFinds
open Go.ChangeShapes Go.WideShapes Go.ChangeAt Go.RowKit
open Go.ChangeMaps (open_string shut_string)
set_option linter.unusedVariables false

theorem own : ownKnob Try.prog.godebug = none := by kernel_rfl
theorem laidOut : laidOutB Try.prog = true := by kernel_rfl

end Go.Proofs.Ytmamkkopbegjaaa.blockFinds

namespace Go.Proofs.Ytmamkkopbegjaaa
theorem blockFinds_holds : Rows.BlockFindsSaid := blockFinds.over
end Go.Proofs.Ytmamkkopbegjaaa
