/-
  What two and alive do: alive answers true, and changes nothing that was there.
-/
import Derived.Test.YtkhkdagdgbmdkaaDCrash
namespace Go.Proofs.Ytkhkdagdgbmdkaa
open Go.RowKit
set_option linter.unusedVariables false
set_option linter.unusedSimpArgs false

def ones : List UInt8 := List.replicate 128 1
end Go.Proofs.Ytkhkdagdgbmdkaa
