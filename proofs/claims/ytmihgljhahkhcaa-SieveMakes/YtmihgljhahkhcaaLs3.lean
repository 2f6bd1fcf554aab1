/-
  The statement SieveNames: the limits, the errors, the chapter's examples.
-/
import Derived.Test.YtmihgljhahkhcaaSr3
namespace Go.Proofs.Ytmihgljhahkhcaa
open Go.RowKit
set_option linter.unusedVariables false
set_option linter.unusedSimpArgs false

theorem Try.infoTx : (Try.prog.info? 9).map (fun i => (i.zero, i.size, i.bytes)) = some (some (.string ByteArray.empty), 1, 16) := by kernel_rfl
end Go.Proofs.Ytmihgljhahkhcaa
